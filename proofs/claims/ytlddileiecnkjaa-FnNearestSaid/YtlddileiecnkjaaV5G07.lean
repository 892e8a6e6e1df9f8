/-
  What is proved here: an item goes down in a heap, as the code has it; push, pop and arrange on a heap of the code's own; pop and arrange on a heap of the code's own; plain facts on heaps: what goes up or down leaves a heap of the same items; the first is the least. No conditions beyond those that each theorem states.
-/
import Derived.Test.YtlddileiecnkjaaV5G06
import Derived.IntWalk
import Derived.Test.YtlddileiecnkjaaV5G05
set_option linter.unusedSimpArgs false
set_option linter.unusedVariables false
namespace Go.Proofs.Ytlddileiecnkjaa
open Go.RowKit

set_option maxRecDepth 100000 in
set_option maxHeartbeats 4000000 in
theorem sink_any (hb g n c k : Nat) (L : List It) (w : World) (hm : n ≤ 1048576) (hR : RowI w g n c L) (hH : HBox w hb (.slice (some ⟨g, 0, none⟩) n c)) (hne : hb ≠ g) (hk : k ≤ n) :
    Calls Try.prog 162 #[.pointer (some ⟨hb, 0, none⟩), .int .i64 (k : Int)] w (RowTo g n c (downI L k) w) := by
  have R := Lib.hid hR
  have H := Lib.hid hH
  have hbl := hH.lt
  clear hR hH
  go_enter Try.func162, Try.ntmps162
  go_wp2
  go_loopw [1] (fun p wr => ∃ (k' : Nat) (L' : List It), p = .int .i64 (k' : Int) ∧ k' ≤ n ∧ RowI wr g n c L' ∧ w.grownBy wr (some g) ∧ downI L' k' = downI L k) (fun p _ => n - (intOf p).toNat)
  case atStart => exact ⟨k, L, rfl, hk, R.out, World.grownBy.refl w _, rfl⟩
  case round =>
    obtain ⟨wo, rfl⟩ : ∃ wo : World, wo = wr := ⟨_, rfl⟩
    obtain ⟨k', L', rfl, hk', hR', hG, hE⟩ := hrel
    have R' := Lib.hid hR'
    have G := Lib.hid hG
    have E := Lib.hid hE
    have HB := Lib.hid (H.out.grown_ hG (by simp; exact hne))
    obtain ⟨hfz, hg, hc⟩ := hR'.cells
    have hn := Lib.hid hR'.2
    have HC := Lib.hid hc
    have hbs : hb < wo.heap.size := Nat.lt_of_lt_of_le hbl hG.size
    clear hR' hG hE hfz hc
    go_wp2_with fail
    go_loopw [4, 5] (fun x y wr => ∃ (i b q : Nat), x = .int .i64 (b : Int) ∧ y = .int .i64 (q : Int) ∧ i ≤ 2 ∧ Hid (q = 2 * k' + 1 + i) ∧ Hid (b = bestI L' k' i) ∧ Bl wo wr) (fun _ y _ => 2 * k' + 3 - (intOf y).toNat)
    case atStart => exact ⟨0, k', 2 * k' + 1, rfl, by go_num, by omega, rfl, rfl, Bl.refl _⟩
    case round =>
      obtain ⟨i, b, q, rfl, rfl, hi2, hq, hb2, hB⟩ := hrel
      have hbn : b < n ∨ b = k' := by
        rcases Nat.lt_or_ge k' n with h | h
        · left; rw [hb2.out, hn.out]; exact bestI_lt (by have := hn.out; omega) i
        · right
          have h3 := pickI_out (L := L') (p := k') (i := i) hi2 (.inr (by have := hn.out; omega))
          rw [hb2.out, ← h3, pickI_none (by have := hn.out; omega)]
      by_cases hi : i < 2
      · by_cases hqn : q < n
        · have q1 : (q : Int) ≤ 2 * (k' : Int) + 2 := by have := hq.out; omega
          have q2 : (q : Int) < (n : Int) := by omega
          have hkq : k' < q := by have := hq.out; omega
          have hbn' : b < n := by omega
          have b0 : (b : Int) < (n : Int) := by omega
          obtain ⟨h0, h1, h2⟩ := HB.out
          obtain ⟨a1, a2⟩ := HC.out q (by have := hn.out; omega)
          obtain ⟨b1, b2⟩ := HC.out b (by have := hn.out; omega)
          have hL : lessI (atI L' q) (atI L' b) = lessI ((atI L' q).1, (atI L' q).2) ((atI L' b).1, (atI L' b).2) := rfl
          generalize (atI L' q).1 = x at a1 hL
          generalize (atI L' q).2 = y at a2 hL
          generalize (atI L' b).1 = x' at b1 hL
          generalize (atI L' b).2 = y' at b2 hL
          have HL := Lib.hid hL
          clear hL
          have HSH := Lib.hid (show ∀ wx, Bl wo wx → Bl wo wx ∧ wx.cell? ⟨hb, 0, none⟩ = some (.slice (some ⟨g, 0, none⟩) n c) ∧ wx.cell? ⟨hb, 1, none⟩ = some (.func (.func 151) #[] #[]) ∧ wx.cell? ⟨g, q * 2, none⟩ = some (.int .i64 x) ∧ wx.cell? ⟨g, q * 2 + 1, none⟩ = some (.int .i64 y) ∧ wx.cell? ⟨g, b * 2, none⟩ = some (.int .i64 x') ∧ wx.cell? ⟨g, b * 2 + 1, none⟩ = some (.int .i64 y') from fun wx hb' => by
            have q := (bcell hb').1
            exact ⟨hb', (q _ _ hbs).trans h0, (q _ _ hbs).trans h1, (q _ _ hg).trans a1, (q _ _ hg).trans a2, (q _ _ hg).trans b1, (q _ _ hg).trans b2⟩)
          clear h0 h1 h2 a1 a2 b1 b2 hbn
          obtain ⟨-, p0, p1, -⟩ := HSH.out wr hB
          cases hb3 : lessI (x, y) (x', y') with
          | true =>
            have HT := Lib.hid (HL.out.trans hb3)
            have HL := Lib.hid hb3
            clear hb3
            go_wp2_with fail
            refine wp_region_held_drew (S := fun wx => Bl wo wx ∧ wx.cell? ⟨hb, 0, none⟩ = some (.slice (some ⟨g, 0, none⟩) n c) ∧ wx.cell? ⟨hb, 1, none⟩ = some (.func (.func 151) #[] #[]) ∧ wx.cell? ⟨g, q * 2, none⟩ = some (.int .i64 x) ∧ wx.cell? ⟨g, q * 2 + 1, none⟩ = some (.int .i64 y) ∧ wx.cell? ⟨g, b * 2, none⟩ = some (.int .i64 x') ∧ wx.cell? ⟨g, b * 2 + 1, none⟩ = some (.int .i64 y')) (by kernel_rfl) ?_ (fun hHeld => ?_)
            · (exact HSH.out _ (hB.trans_ (show Bl wr _ from (by repeat' (first | exact Bl.refl _ | with_reducible assumption | with_reducible refine Bl.drew_ ?_ | with_reducible refine Bl.drewN_ ?_ _ | with_reducible refine Bl.alloc_ ?_ _ | with_reducible refine Bl.trans_ ?_ (by assumption) | with_reducible refine Bl.trans_ ?_ (And.left (by assumption)))))))
            refine wpAnyH_take (i := 0) (v := ?_) rfl (by kernel_rfl) (by kernel_rfl) (by kernel_rfl) (fun _ _ _ h => h) (Or.inl ⟨by kernel_rfl, ?_⟩) (by assumption) ?_
            rotate_left
            · (intro wx hSw; (try dsimp only at hSw); go_simp; try (with_reducible rfl))
            try simp only [Act.put, List.getElem_toArray, List.getElem_cons_succ, List.getElem_cons_zero, List.setIfInBounds_toArray, List.set_cons_zero, List.set_cons_succ]
            refine wpAnyH_take (i := 1) (v := ?_) rfl (by kernel_rfl) (by kernel_rfl) (by kernel_rfl) (fun _ _ _ h => h) (Or.inl ⟨by kernel_rfl, ?_⟩) (by assumption) ?_
            rotate_left
            · (intro wx hSw; (try dsimp only at hSw); go_simp; try (with_reducible rfl))
            try simp only [Act.put, List.getElem_toArray, List.getElem_cons_succ, List.getElem_cons_zero, List.setIfInBounds_toArray, List.set_cons_zero, List.set_cons_succ]
            refine wpAnyH_take (i := 2) (v := ?_) rfl (by kernel_rfl) (by kernel_rfl) (by kernel_rfl) (fun _ _ _ h => h) (Or.inl ⟨by kernel_rfl, ?_⟩) (by assumption) ?_
            rotate_left
            · (intro wx hSw; (try dsimp only at hSw); go_simp; try (with_reducible rfl))
            try simp only [Act.put, List.getElem_toArray, List.getElem_cons_succ, List.getElem_cons_zero, List.setIfInBounds_toArray, List.set_cons_zero, List.set_cons_succ]
            refine wpAnyH_take (i := 3) (v := ?_) rfl (by kernel_rfl) (by kernel_rfl) (by kernel_rfl) (fun _ _ _ h => h) (Or.inl ⟨by kernel_rfl, ?_⟩) (by assumption) ?_
            rotate_left
            · (intro wx hSw; (try dsimp only at hSw); go_simp; try (with_reducible rfl))
            try simp only [Act.put, List.getElem_toArray, List.getElem_cons_succ, List.getElem_cons_zero, List.setIfInBounds_toArray, List.set_cons_zero, List.set_cons_succ]
            refine wpAnyH_take (i := 4) (v := ?_) rfl (by kernel_rfl) (by kernel_rfl) (by kernel_rfl) (fun _ _ _ h => h) (Or.inl ⟨by kernel_rfl, ?_⟩) (by assumption) ?_
            rotate_left
            · (intro wx hSw; (try dsimp only at hSw); go_simp; try (with_reducible rfl))
            try simp only [Act.put, List.getElem_toArray, List.getElem_cons_succ, List.getElem_cons_zero, List.setIfInBounds_toArray, List.set_cons_zero, List.set_cons_succ]
            refine wpAnyH_take (i := 5) (v := ?_) rfl (by kernel_rfl) (by kernel_rfl) (by kernel_rfl) (fun _ _ _ h => h) (Or.inl ⟨by kernel_rfl, ?_⟩) (by assumption) ?_
            rotate_left
            · (intro wx hSw; (try dsimp only at hSw); go_simp; try (with_reducible rfl))
            try simp only [Act.put, List.getElem_toArray, List.getElem_cons_succ, List.getElem_cons_zero, List.setIfInBounds_toArray, List.set_cons_zero, List.set_cons_succ]
            refine wpAnyH_take (i := 6) (v := ?_) rfl (by kernel_rfl) (by kernel_rfl) (by kernel_rfl) (fun _ _ _ h => h) (Or.inl ⟨by kernel_rfl, ?_⟩) (by assumption) ?_
            rotate_left
            · (intro wx hSw; (try dsimp only at hSw); go_simp; try (with_reducible rfl))
            try simp only [Act.put, List.getElem_toArray, List.getElem_cons_succ, List.getElem_cons_zero, List.setIfInBounds_toArray, List.set_cons_zero, List.set_cons_succ]
            refine wpAnyH_take (i := 7) (v := ?_) rfl (by kernel_rfl) (by kernel_rfl) (by kernel_rfl) (fun _ _ _ h => h) (Or.inl ⟨by kernel_rfl, ?_⟩) (by assumption) ?_
            rotate_left
            · (intro wx hSw; (try dsimp only at hSw); go_simp; try (with_reducible rfl))
            try simp only [Act.put, List.getElem_toArray, List.getElem_cons_succ, List.getElem_cons_zero, List.setIfInBounds_toArray, List.set_cons_zero, List.set_cons_succ]
            refine wpAnyH_take (i := 8) (v := ?_) rfl (by kernel_rfl) (by kernel_rfl) (by kernel_rfl) (fun _ _ _ h => h) (Or.inl ⟨by kernel_rfl, ?_⟩) (by assumption) ?_
            rotate_left
            · (intro wx hSw; (try dsimp only at hSw); go_simp; try (with_reducible rfl))
            try simp only [Act.put, List.getElem_toArray, List.getElem_cons_succ, List.getElem_cons_zero, List.setIfInBounds_toArray, List.set_cons_zero, List.set_cons_succ]
            refine wpAnyH_take (i := 9) (v := ?_) rfl (by kernel_rfl) (by kernel_rfl) (by kernel_rfl) (fun _ _ _ h => h) (Or.inl ⟨by kernel_rfl, ?_⟩) (by assumption) ?_
            rotate_left
            · (intro wx hSw; (try dsimp only at hSw); go_simp; try (with_reducible rfl))
            try simp only [Act.put, List.getElem_toArray, List.getElem_cons_succ, List.getElem_cons_zero, List.setIfInBounds_toArray, List.set_cons_zero, List.set_cons_succ]
            refine wpAnyH_take (i := 10) (v := ?_) rfl (by kernel_rfl) (by kernel_rfl) (by kernel_rfl) (fun _ _ _ h => h) (Or.inl ⟨by kernel_rfl, ?_⟩) (by assumption) ?_
            rotate_left
            · (intro wx hSw; (try dsimp only at hSw); go_simp; try (with_reducible rfl))
            try simp only [Act.put, List.getElem_toArray, List.getElem_cons_succ, List.getElem_cons_zero, List.setIfInBounds_toArray, List.set_cons_zero, List.set_cons_succ]
            refine wpAnyH_take (i := 11) (v := ?_) rfl (by kernel_rfl) (by kernel_rfl) (by kernel_rfl) (fun _ _ _ h => h) (Or.inl ⟨by kernel_rfl, ?_⟩) (by assumption) ?_
            rotate_left
            · (intro wx hSw; (try dsimp only at hSw); go_simp; try (with_reducible rfl))
            try simp only [Act.put, List.getElem_toArray, List.getElem_cons_succ, List.getElem_cons_zero, List.setIfInBounds_toArray, List.set_cons_zero, List.set_cons_succ]
            refine wpAnyH_take (i := 12) (v := ?_) rfl (by kernel_rfl) (by kernel_rfl) (by kernel_rfl) (fun _ _ _ h => h) (Or.inl ⟨by kernel_rfl, ?_⟩) (by assumption) ?_
            rotate_left
            · (intro wx hSw; (try dsimp only at hSw); go_simp; try (with_reducible rfl))
            try simp only [Act.put, List.getElem_toArray, List.getElem_cons_succ, List.getElem_cons_zero, List.setIfInBounds_toArray, List.set_cons_zero, List.set_cons_succ]
            refine wpAnyH_take (i := 13) (v := ?_) rfl (by kernel_rfl) (by kernel_rfl) (by kernel_rfl) (fun _ _ _ h => h) (Or.inl ⟨by kernel_rfl, ?_⟩) (by assumption) ?_
            rotate_left
            · (intro wx hSw; (try dsimp only at hSw); go_simp; try (with_reducible rfl))
            try simp only [Act.put, List.getElem_toArray, List.getElem_cons_succ, List.getElem_cons_zero, List.setIfInBounds_toArray, List.set_cons_zero, List.set_cons_succ]
            refine wpAnyH_take (i := 14) (v := ?_) rfl (by kernel_rfl) (by kernel_rfl) (by kernel_rfl) (fun _ _ _ h => h) (Or.inl ⟨by kernel_rfl, ?_⟩) (by assumption) ?_
            rotate_left
            · (intro wx hSw; (try dsimp only at hSw); go_simp; try (with_reducible rfl))
            try simp only [Act.put, List.getElem_toArray, List.getElem_cons_succ, List.getElem_cons_zero, List.setIfInBounds_toArray, List.set_cons_zero, List.set_cons_succ]
            refine wpAnyH_take (i := 15) (v := ?_) rfl (by kernel_rfl) (by kernel_rfl) (by kernel_rfl) (fun _ _ _ h => h) (Or.inl ⟨by kernel_rfl, ?_⟩) (by assumption) ?_
            rotate_left
            · (intro wx hSw; (try dsimp only at hSw); go_simp; try (with_reducible rfl))
            try simp only [Act.put, List.getElem_toArray, List.getElem_cons_succ, List.getElem_cons_zero, List.setIfInBounds_toArray, List.set_cons_zero, List.set_cons_succ]
            refine wpAnyH_take (i := 16) (v := ?_) rfl (by kernel_rfl) (by kernel_rfl) (by kernel_rfl) (fun _ _ _ h => h) (Or.inl ⟨by kernel_rfl, ?_⟩) (by assumption) ?_
            rotate_left
            · (intro wx hSw; (try dsimp only at hSw); go_simp; try (with_reducible rfl))
            try simp only [Act.put, List.getElem_toArray, List.getElem_cons_succ, List.getElem_cons_zero, List.setIfInBounds_toArray, List.set_cons_zero, List.set_cons_succ]
            refine wpAnyH_take (i := 17) (v := ?_) rfl (by kernel_rfl) (by kernel_rfl) (by kernel_rfl) (fun _ _ _ h => h) (Or.inl ⟨by kernel_rfl, ?_⟩) (by assumption) ?_
            rotate_left
            · (intro wx hSw; (try dsimp only at hSw); go_simp; try (with_reducible rfl))
            try simp only [Act.put, List.getElem_toArray, List.getElem_cons_succ, List.getElem_cons_zero, List.setIfInBounds_toArray, List.set_cons_zero, List.set_cons_succ]
            refine wpAnyH_ready (rs := [18]) (by kernel_rfl) (by simp) ?_
            refine AllReadyH.cons rfl (fun K hK => ?_) AllReadyH.nil
            go_simp
            (go_at_call 151; refine (itemLess_at _ _ _ _ _ _ HL.out).mono ?_; rintro e w' ⟨rfl, hb'⟩; obtain ⟨hc', hf'⟩ := bcell hb')
            try (go_wp2_with fail)
            refine hK.out _ _ ?_ (fun hHeld => ?_)
            · (exact HSH.out _ (hB.trans_ (show Bl wr _ from (by repeat' (first | exact Bl.refl _ | with_reducible assumption | with_reducible refine Bl.drew_ ?_ | with_reducible refine Bl.drewN_ ?_ _ | with_reducible refine Bl.alloc_ ?_ _ | with_reducible refine Bl.trans_ ?_ (by assumption) | with_reducible refine Bl.trans_ ?_ (And.left (by assumption)))))))
            clear hK K
            try simp only [Act.put, List.getElem_toArray, List.getElem_cons_succ, List.getElem_cons_zero, List.setIfInBounds_toArray, List.set_cons_zero, List.set_cons_succ]
            refine wpAnyH_done (by kernel_rfl) ?_ _
            clear hHeld
            have B1 : Bl wo w' := hB.trans_ (show Bl wr w' from (by repeat' (first | exact Bl.refl _ | with_reducible assumption | with_reducible refine Bl.drew_ ?_ | with_reducible refine Bl.drewN_ ?_ _ | with_reducible refine Bl.alloc_ ?_ _ | with_reducible refine Bl.trans_ ?_ (by assumption) | with_reducible refine Bl.trans_ ?_ (And.left (by assumption)))))
            generalize w' = wz at *
            go_wp2
            go_roundw
            case rel => exact ⟨i + 1, q, q + 1, rfl, by go_num, by omega, show q + 1 = _ from by have := hq.out; omega, show q = _ from by rw [bestI_yes (by have := hn.out; have := hq.out; omega) (by rw [← hq.out, ← hb2.out]; exact HT.out)]; exact hq.out, B1⟩
            case measure => simp [intOf]; omega
          | false =>
            have HT := Lib.hid (HL.out.trans hb3)
            have HL := Lib.hid hb3
            clear hb3
            go_wp2_with fail
            refine wp_region_held_drew (S := fun wx => Bl wo wx ∧ wx.cell? ⟨hb, 0, none⟩ = some (.slice (some ⟨g, 0, none⟩) n c) ∧ wx.cell? ⟨hb, 1, none⟩ = some (.func (.func 151) #[] #[]) ∧ wx.cell? ⟨g, q * 2, none⟩ = some (.int .i64 x) ∧ wx.cell? ⟨g, q * 2 + 1, none⟩ = some (.int .i64 y) ∧ wx.cell? ⟨g, b * 2, none⟩ = some (.int .i64 x') ∧ wx.cell? ⟨g, b * 2 + 1, none⟩ = some (.int .i64 y')) (by kernel_rfl) ?_ (fun hHeld => ?_)
            · (exact HSH.out _ (hB.trans_ (show Bl wr _ from (by repeat' (first | exact Bl.refl _ | with_reducible assumption | with_reducible refine Bl.drew_ ?_ | with_reducible refine Bl.drewN_ ?_ _ | with_reducible refine Bl.alloc_ ?_ _ | with_reducible refine Bl.trans_ ?_ (by assumption) | with_reducible refine Bl.trans_ ?_ (And.left (by assumption)))))))
            refine wpAnyH_take (i := 0) (v := ?_) rfl (by kernel_rfl) (by kernel_rfl) (by kernel_rfl) (fun _ _ _ h => h) (Or.inl ⟨by kernel_rfl, ?_⟩) (by assumption) ?_
            rotate_left
            · (intro wx hSw; (try dsimp only at hSw); go_simp; try (with_reducible rfl))
            try simp only [Act.put, List.getElem_toArray, List.getElem_cons_succ, List.getElem_cons_zero, List.setIfInBounds_toArray, List.set_cons_zero, List.set_cons_succ]
            refine wpAnyH_take (i := 1) (v := ?_) rfl (by kernel_rfl) (by kernel_rfl) (by kernel_rfl) (fun _ _ _ h => h) (Or.inl ⟨by kernel_rfl, ?_⟩) (by assumption) ?_
            rotate_left
            · (intro wx hSw; (try dsimp only at hSw); go_simp; try (with_reducible rfl))
            try simp only [Act.put, List.getElem_toArray, List.getElem_cons_succ, List.getElem_cons_zero, List.setIfInBounds_toArray, List.set_cons_zero, List.set_cons_succ]
            refine wpAnyH_take (i := 2) (v := ?_) rfl (by kernel_rfl) (by kernel_rfl) (by kernel_rfl) (fun _ _ _ h => h) (Or.inl ⟨by kernel_rfl, ?_⟩) (by assumption) ?_
            rotate_left
            · (intro wx hSw; (try dsimp only at hSw); go_simp; try (with_reducible rfl))
            try simp only [Act.put, List.getElem_toArray, List.getElem_cons_succ, List.getElem_cons_zero, List.setIfInBounds_toArray, List.set_cons_zero, List.set_cons_succ]
            refine wpAnyH_take (i := 3) (v := ?_) rfl (by kernel_rfl) (by kernel_rfl) (by kernel_rfl) (fun _ _ _ h => h) (Or.inl ⟨by kernel_rfl, ?_⟩) (by assumption) ?_
            rotate_left
            · (intro wx hSw; (try dsimp only at hSw); go_simp; try (with_reducible rfl))
            try simp only [Act.put, List.getElem_toArray, List.getElem_cons_succ, List.getElem_cons_zero, List.setIfInBounds_toArray, List.set_cons_zero, List.set_cons_succ]
            refine wpAnyH_take (i := 4) (v := ?_) rfl (by kernel_rfl) (by kernel_rfl) (by kernel_rfl) (fun _ _ _ h => h) (Or.inl ⟨by kernel_rfl, ?_⟩) (by assumption) ?_
            rotate_left
            · (intro wx hSw; (try dsimp only at hSw); go_simp; try (with_reducible rfl))
            try simp only [Act.put, List.getElem_toArray, List.getElem_cons_succ, List.getElem_cons_zero, List.setIfInBounds_toArray, List.set_cons_zero, List.set_cons_succ]
            refine wpAnyH_take (i := 5) (v := ?_) rfl (by kernel_rfl) (by kernel_rfl) (by kernel_rfl) (fun _ _ _ h => h) (Or.inl ⟨by kernel_rfl, ?_⟩) (by assumption) ?_
            rotate_left
            · (intro wx hSw; (try dsimp only at hSw); go_simp; try (with_reducible rfl))
            try simp only [Act.put, List.getElem_toArray, List.getElem_cons_succ, List.getElem_cons_zero, List.setIfInBounds_toArray, List.set_cons_zero, List.set_cons_succ]
            refine wpAnyH_take (i := 6) (v := ?_) rfl (by kernel_rfl) (by kernel_rfl) (by kernel_rfl) (fun _ _ _ h => h) (Or.inl ⟨by kernel_rfl, ?_⟩) (by assumption) ?_
            rotate_left
            · (intro wx hSw; (try dsimp only at hSw); go_simp; try (with_reducible rfl))
            try simp only [Act.put, List.getElem_toArray, List.getElem_cons_succ, List.getElem_cons_zero, List.setIfInBounds_toArray, List.set_cons_zero, List.set_cons_succ]
            refine wpAnyH_take (i := 7) (v := ?_) rfl (by kernel_rfl) (by kernel_rfl) (by kernel_rfl) (fun _ _ _ h => h) (Or.inl ⟨by kernel_rfl, ?_⟩) (by assumption) ?_
            rotate_left
            · (intro wx hSw; (try dsimp only at hSw); go_simp; try (with_reducible rfl))
            try simp only [Act.put, List.getElem_toArray, List.getElem_cons_succ, List.getElem_cons_zero, List.setIfInBounds_toArray, List.set_cons_zero, List.set_cons_succ]
            refine wpAnyH_take (i := 8) (v := ?_) rfl (by kernel_rfl) (by kernel_rfl) (by kernel_rfl) (fun _ _ _ h => h) (Or.inl ⟨by kernel_rfl, ?_⟩) (by assumption) ?_
            rotate_left
            · (intro wx hSw; (try dsimp only at hSw); go_simp; try (with_reducible rfl))
            try simp only [Act.put, List.getElem_toArray, List.getElem_cons_succ, List.getElem_cons_zero, List.setIfInBounds_toArray, List.set_cons_zero, List.set_cons_succ]
            refine wpAnyH_take (i := 9) (v := ?_) rfl (by kernel_rfl) (by kernel_rfl) (by kernel_rfl) (fun _ _ _ h => h) (Or.inl ⟨by kernel_rfl, ?_⟩) (by assumption) ?_
            rotate_left
            · (intro wx hSw; (try dsimp only at hSw); go_simp; try (with_reducible rfl))
            try simp only [Act.put, List.getElem_toArray, List.getElem_cons_succ, List.getElem_cons_zero, List.setIfInBounds_toArray, List.set_cons_zero, List.set_cons_succ]
            refine wpAnyH_take (i := 10) (v := ?_) rfl (by kernel_rfl) (by kernel_rfl) (by kernel_rfl) (fun _ _ _ h => h) (Or.inl ⟨by kernel_rfl, ?_⟩) (by assumption) ?_
            rotate_left
            · (intro wx hSw; (try dsimp only at hSw); go_simp; try (with_reducible rfl))
            try simp only [Act.put, List.getElem_toArray, List.getElem_cons_succ, List.getElem_cons_zero, List.setIfInBounds_toArray, List.set_cons_zero, List.set_cons_succ]
            refine wpAnyH_take (i := 11) (v := ?_) rfl (by kernel_rfl) (by kernel_rfl) (by kernel_rfl) (fun _ _ _ h => h) (Or.inl ⟨by kernel_rfl, ?_⟩) (by assumption) ?_
            rotate_left
            · (intro wx hSw; (try dsimp only at hSw); go_simp; try (with_reducible rfl))
            try simp only [Act.put, List.getElem_toArray, List.getElem_cons_succ, List.getElem_cons_zero, List.setIfInBounds_toArray, List.set_cons_zero, List.set_cons_succ]
            refine wpAnyH_take (i := 12) (v := ?_) rfl (by kernel_rfl) (by kernel_rfl) (by kernel_rfl) (fun _ _ _ h => h) (Or.inl ⟨by kernel_rfl, ?_⟩) (by assumption) ?_
            rotate_left
            · (intro wx hSw; (try dsimp only at hSw); go_simp; try (with_reducible rfl))
            try simp only [Act.put, List.getElem_toArray, List.getElem_cons_succ, List.getElem_cons_zero, List.setIfInBounds_toArray, List.set_cons_zero, List.set_cons_succ]
            refine wpAnyH_take (i := 13) (v := ?_) rfl (by kernel_rfl) (by kernel_rfl) (by kernel_rfl) (fun _ _ _ h => h) (Or.inl ⟨by kernel_rfl, ?_⟩) (by assumption) ?_
            rotate_left
            · (intro wx hSw; (try dsimp only at hSw); go_simp; try (with_reducible rfl))
            try simp only [Act.put, List.getElem_toArray, List.getElem_cons_succ, List.getElem_cons_zero, List.setIfInBounds_toArray, List.set_cons_zero, List.set_cons_succ]
            refine wpAnyH_take (i := 14) (v := ?_) rfl (by kernel_rfl) (by kernel_rfl) (by kernel_rfl) (fun _ _ _ h => h) (Or.inl ⟨by kernel_rfl, ?_⟩) (by assumption) ?_
            rotate_left
            · (intro wx hSw; (try dsimp only at hSw); go_simp; try (with_reducible rfl))
            try simp only [Act.put, List.getElem_toArray, List.getElem_cons_succ, List.getElem_cons_zero, List.setIfInBounds_toArray, List.set_cons_zero, List.set_cons_succ]
            refine wpAnyH_take (i := 15) (v := ?_) rfl (by kernel_rfl) (by kernel_rfl) (by kernel_rfl) (fun _ _ _ h => h) (Or.inl ⟨by kernel_rfl, ?_⟩) (by assumption) ?_
            rotate_left
            · (intro wx hSw; (try dsimp only at hSw); go_simp; try (with_reducible rfl))
            try simp only [Act.put, List.getElem_toArray, List.getElem_cons_succ, List.getElem_cons_zero, List.setIfInBounds_toArray, List.set_cons_zero, List.set_cons_succ]
            refine wpAnyH_take (i := 16) (v := ?_) rfl (by kernel_rfl) (by kernel_rfl) (by kernel_rfl) (fun _ _ _ h => h) (Or.inl ⟨by kernel_rfl, ?_⟩) (by assumption) ?_
            rotate_left
            · (intro wx hSw; (try dsimp only at hSw); go_simp; try (with_reducible rfl))
            try simp only [Act.put, List.getElem_toArray, List.getElem_cons_succ, List.getElem_cons_zero, List.setIfInBounds_toArray, List.set_cons_zero, List.set_cons_succ]
            refine wpAnyH_take (i := 17) (v := ?_) rfl (by kernel_rfl) (by kernel_rfl) (by kernel_rfl) (fun _ _ _ h => h) (Or.inl ⟨by kernel_rfl, ?_⟩) (by assumption) ?_
            rotate_left
            · (intro wx hSw; (try dsimp only at hSw); go_simp; try (with_reducible rfl))
            try simp only [Act.put, List.getElem_toArray, List.getElem_cons_succ, List.getElem_cons_zero, List.setIfInBounds_toArray, List.set_cons_zero, List.set_cons_succ]
            refine wpAnyH_ready (rs := [18]) (by kernel_rfl) (by simp) ?_
            refine AllReadyH.cons rfl (fun K hK => ?_) AllReadyH.nil
            go_simp
            (go_at_call 151; refine (itemLess_at _ _ _ _ _ _ HL.out).mono ?_; rintro e w' ⟨rfl, hb'⟩; obtain ⟨hc', hf'⟩ := bcell hb')
            try (go_wp2_with fail)
            refine hK.out _ _ ?_ (fun hHeld => ?_)
            · (exact HSH.out _ (hB.trans_ (show Bl wr _ from (by repeat' (first | exact Bl.refl _ | with_reducible assumption | with_reducible refine Bl.drew_ ?_ | with_reducible refine Bl.drewN_ ?_ _ | with_reducible refine Bl.alloc_ ?_ _ | with_reducible refine Bl.trans_ ?_ (by assumption) | with_reducible refine Bl.trans_ ?_ (And.left (by assumption)))))))
            clear hK K
            try simp only [Act.put, List.getElem_toArray, List.getElem_cons_succ, List.getElem_cons_zero, List.setIfInBounds_toArray, List.set_cons_zero, List.set_cons_succ]
            refine wpAnyH_done (by kernel_rfl) ?_ _
            clear hHeld
            have B1 : Bl wo w' := hB.trans_ (show Bl wr w' from (by repeat' (first | exact Bl.refl _ | with_reducible assumption | with_reducible refine Bl.drew_ ?_ | with_reducible refine Bl.drewN_ ?_ _ | with_reducible refine Bl.alloc_ ?_ _ | with_reducible refine Bl.trans_ ?_ (by assumption) | with_reducible refine Bl.trans_ ?_ (And.left (by assumption)))))
            generalize w' = wz at *
            go_wp2
            go_roundw
            case rel => exact ⟨i + 1, b, q + 1, rfl, by go_num, by omega, show q + 1 = _ from by have := hq.out; omega, show b = _ from by rw [bestI_no (by rw [← hq.out, ← hb2.out]; exact HT.out)]; exact hb2.out, B1⟩
            case measure => simp [intOf]; omega
        · have q1 : (q : Int) ≤ 2 * (k' : Int) + 2 := by have := hq.out; omega
          have q2 : decide ((q : Int) < (n : Int)) = false := by simp; omega
          have HP := Lib.hid (show pickI L' k' = b from by rw [pickI_out (L := L') (p := k') (i := i) (by omega) (.inr (by have := hn.out; have := hq.out; omega))]; exact hb2.out.symm)
          have p0 := (HB.out.bl hbs hB).1
          have hbk' := pickI_ge L' k'
          by_cases hbk : b = k'
          · have e0 : ((b : Int) == (k' : Int)) = true := by simp [hbk]
            have HK := Lib.hid hbk
            clear hbk hbn hbk'
            go_wp2
            go_end0
            exact ⟨rfl, by rw [← E.out, downI_stop (by rw [HP.out, HK.out])]; exact R'.out.bl hB, grown_bl G.out hB⟩
          · have e0 : ((b : Int) == (k' : Int)) = false := by simp; omega
            have hbn' : b < n := by omega
            have hbk2 : k' < b := by have := HP.out; omega
            clear hbn hbk'
            go_wp2_with fail
            refine (swap_any hb g n c k' b L' _ hm (R'.out.bl hB) (HB.out.bl hbs hB) (by omega) hbn' (by omega)).mono ?_
            rintro e w2 ⟨rfl, hR2, hG2⟩
            have R2 := Lib.hid hR2
            have G2 := Lib.hid hG2
            clear hR2 hG2 p0
            go_wp2
            go_roundw
            case rel => exact ⟨b, swapI L' k' b, rfl, by omega, R2.out, grown_trans (grown_bl G.out hB) G2.out, by rw [← E.out]; have h := downI_step (L := L') (p := k') (by rw [HP.out]; omega); rw [HP.out] at h; exact h.symm⟩
            case measure => simp [intOf]; omega
      · have q1 : decide ((q : Int) ≤ 2 * (k' : Int) + 2) = false := by have := hq.out; simp; omega
        have HP := Lib.hid (show pickI L' k' = b from by rw [pickI_out (L := L') (p := k') (i := i) (by omega) (.inl (by omega))]; exact hb2.out.symm)
        have p0 := (HB.out.bl hbs hB).1
        have hbk' := pickI_ge L' k'
        by_cases hbk : b = k'
        · have e0 : ((b : Int) == (k' : Int)) = true := by simp [hbk]
          have HK := Lib.hid hbk
          clear hbk hbn hbk'
          go_wp2
          go_end0
          exact ⟨rfl, by rw [← E.out, downI_stop (by rw [HP.out, HK.out])]; exact R'.out.bl hB, grown_bl G.out hB⟩
        · have e0 : ((b : Int) == (k' : Int)) = false := by simp; omega
          have hbn' : b < n := by omega
          have hbk2 : k' < b := by have := HP.out; omega
          clear hbn hbk'
          go_wp2_with fail
          refine (swap_any hb g n c k' b L' _ hm (R'.out.bl hB) (HB.out.bl hbs hB) (by omega) hbn' (by omega)).mono ?_
          rintro e w2 ⟨rfl, hR2, hG2⟩
          have R2 := Lib.hid hR2
          have G2 := Lib.hid hG2
          clear hR2 hG2 p0
          go_wp2
          go_roundw
          case rel => exact ⟨b, swapI L' k' b, rfl, by omega, R2.out, grown_trans (grown_bl G.out hB) G2.out, by rw [← E.out]; have h := downI_step (L := L') (p := k') (by rw [HP.out]; omega); rw [HP.out] at h; exact h.symm⟩
          case measure => simp [intOf]; omega

end Go.Proofs.Ytlddileiecnkjaa

set_option linter.unusedSimpArgs false
set_option linter.unusedVariables false
namespace Go.Proofs.Ytlddileiecnkjaa
open Go.RowKit

theorem Owns.self_ {t : TypeId} {s : Nat} {w : World} {B g n c : Nat} {vs : List Value} (h : Owns t s w B (.slice (some ⟨g, 0, none⟩) n c) n vs) : Owns t s w g (.slice (some ⟨g, 0, none⟩) n c) n vs := by
  refine ⟨h.1, ?_⟩
  rcases h.2 with ⟨e, h0⟩ | ⟨g', cap, cur, e, hB, r⟩
  · simp at e
  · injection e with e1 e2 e3
    injection e1 with e1
    injection e1 with e1
    exact .inr ⟨g', cap, cur, by rw [e1, e3], by omega, r⟩
theorem Owns.at_base {t : TypeId} {s : Nat} {w : World} {B B' g n c : Nat} {vs : List Value} (h : Owns t s w B (.slice (some ⟨g, 0, none⟩) n c) n vs) (hB : B' ≤ g) : Owns t s w B' (.slice (some ⟨g, 0, none⟩) n c) n vs :=
  Owns.low (Owns.self_ h) hB

/-- What a push leaves. -/
def PushPost (B hb : Nat) (v0 : Value) (L : List It) (w : World) (e : Ending) (w' : World) : Prop :=
  e = .returned (.tuple #[]) ∧ ∃ g c, HeapIn w' B hb (.slice (some ⟨g, 0, none⟩) L.length c) L ∧ Turn (fun k => k = hb ∨ some k = v0.ownBlock) w w' ∧ (v0.ownBlock = some g ∨ w.heap.size ≤ g)

set_option maxRecDepth 100000 in
set_option maxHeartbeats 2000000 in
theorem push_any (B hb : Nat) (v : Value) (L : List It) (a b : Int) (w : World) (hm : L.length + 1 ≤ 1048576) (hH : HeapIn w B hb v L) (hB : B ≤ w.heap.size) :
    Calls Try.prog 152 #[.pointer (some ⟨hb, 0, none⟩), .agg #[.int .i64 a, .int .i64 b]] w (PushPost B hb v (upI (L ++ [(a, b)]) L.length) w) := by
  obtain ⟨i0, hi, hz0, hz1, hz2⟩ := info_parts infoItem
  have I0 := Lib.hid hi
  have I1 := Lib.hid hz0
  have I2 := Lib.hid hz1
  have I3 := Lib.hid hz2
  obtain ⟨hbx, hown, hBb, hnb⟩ := hH
  obtain ⟨A, c, rfl, hcm, -, -, -⟩ := Owns.shape hown
  have O := Lib.hid hown
  have NB := Lib.hid hnb
  have hlt := hbx.lt
  have HX := Lib.hid hbx
  obtain ⟨n, hn⟩ : ∃ n, n = L.length := ⟨_, rfl⟩
  rw [← hn] at hm
  obtain ⟨h0, h1, h2⟩ := hbx
  rw [← hn] at h0
  have HN := Lib.hid hn
  have O1 := Lib.hid (show (((w.alloc (.cells #[.int .i64 a, .int .i64 b] 68)).drew).alloc (.cells #[.int .i64 a, .int .i64 b] 68)).ownsRow B 68 2 (.slice A n c) n (cs2 L) from by rw [HN.out]; exact World.ownsRow.alloc (World.ownsRow.drew (World.ownsRow.alloc O.out _)) _)
  have NW := Lib.hid (show ∀ j u, ([.int .i64 a, .int .i64 b] : List Value)[j]? = some u → (((w.alloc (.cells #[.int .i64 a, .int .i64 b] 68)).drew).alloc (.cells #[.int .i64 a, .int .i64 b] 68)).cell? ((⟨w.heap.size + 1, 0, none⟩ : Addr).add j) = some u from by
    simpa using new2 ((w.alloc (.cells #[.int .i64 a, .int .i64 b] 68)).drew) (.int .i64 a) (.int .i64 b) 68)
  have NB2 := Lib.hid (show (Value.slice A n c).ownBlock ≠ some hb from by rw [ownBlock_slice]; rw [ownBlock_slice] at hnb; exact hnb)
  clear hi hz0 hz1 hz2 hnb hown hn
  go_enter Try.func152, Try.ntmps152
  go_wp2_with fail
  go_region_law (refine step_append_lies _ rfl (.tmp 8) (.tmp 10) 59 rfl B 68 i0 _ 2 16 Try.underlying59 I0.out I1.out I2.out I3.out rfl (by decide) (.slice A n c) n (cs2 L) rfl O1.out ⟨w.heap.size + 1, 0, none⟩ 1 1 [.int .i64 a, .int .i64 b] rfl rfl NW.out (one2 [(a, b)]) (by decide) (by unfold maxLen; omega) (by omega) (by simp; omega) _ rfl ?_; intro g cap w2 hown2 hgr2 hgv hlt2; have q0 := hgr2.cell (a := ⟨hb, 0, none⟩) (v := .slice A n c) (by simp [go_sem, h0, hlt]) (fun h => NB2.out h.symm); have q2 := (World.frozen?_of_block (a := ⟨hb, 0, none⟩) (hgr2.block hb (by simp; omega) (fun h => NB2.out h.symm))).trans (show _ = false from by simp [go_sem, h2, hlt]))
  all_goals
    have hgv' : (Value.slice A n c).ownBlock = some g ∨ g = w.heap.size + 2 := by
      rcases hgv with h | h
      · exact .inl h
      · right; simpa using h
    have hgb : hb ≠ g := by
      rintro rfl
      rcases hgv' with h | h
      · exact NB2.out h
      · omega
    have hBg : B ≤ g := by
      rcases hgv' with h | h
      · exact (Owns.lt_ O.out g (by rw [← ownBlock_slice A n c]; exact h)).1
      · omega
    have s2 := hgr2.size
    simp at s2
    have R3 := Lib.hid (show RowI (w2.setCell ⟨hb, 0, none⟩ (.slice (some ⟨g, 0, none⟩) (n + 1) cap)) g (n + 1) cap (L ++ [(a, b)]) from by
      have hl : n + 1 = (L ++ [(a, b)]).length := by simp; exact HN.out
      have hO : Owns 68 2 w2 B (.slice (some ⟨g, 0, none⟩) (n + 1) cap) (n + 1) (cs2 (L ++ [(a, b)])) := by
        unfold Owns
        rw [cs2_append]
        exact hown2
      refine ⟨?_, hl⟩
      unfold OwnI
      rw [← hl]
      exact Owns.setOther (Owns.self_ hO) (fun g' e => by injection e with e; subst e; exact fun h => hgb h.symm) _)
    have q1 := hgr2.cell (a := ⟨hb, 1, none⟩) (v := .func (.func 151) #[] #[]) (by simp [go_sem, h1, hlt]) (fun h => NB2.out h.symm)
    have H3 := Lib.hid (show HBox (w2.setCell ⟨hb, 0, none⟩ (.slice (some ⟨g, 0, none⟩) (n + 1) cap)) hb (.slice (some ⟨g, 0, none⟩) (n + 1) cap) from ⟨by simp [go_sem, q0], by simp [go_sem, q1], by simp [go_sem, q2]⟩)
    have T2 := Lib.hid (show Turn (fun k => k = hb ∨ some k = (Value.slice A L.length c).ownBlock) w (w2.setCell ⟨hb, 0, none⟩ (.slice (some ⟨g, 0, none⟩) (n + 1) cap)) from
      ((Turn.of_bl (S := fun k => k = hb ∨ some k = (Value.slice A L.length c).ownBlock) (show Bl w _ from (by repeat' (first | exact Bl.refl _ | with_reducible assumption | with_reducible refine Bl.drew_ ?_ | with_reducible refine Bl.drewN_ ?_ _ | with_reducible refine Bl.alloc_ ?_ _ | with_reducible refine Bl.trans_ ?_ (by assumption) | with_reducible refine Bl.trans_ ?_ (And.left (by assumption)))))).trans (Turn.of_grown (S := fun k => some k = (Value.slice A n c).ownBlock) hgr2 (fun k h => h.symm)) (fun i _ h => .inr (by rw [ownBlock_slice] at h ⊢; exact h))).set (.inl (.inl rfl)) _)
    have GV := Lib.hid hgv'
    clear hown2 hgr2 hgv hgv' q0 q1 q2
    generalize w2.setCell ⟨hb, 0, none⟩ (.slice (some ⟨g, 0, none⟩) (n + 1) cap) = w3 at *
    obtain ⟨h0, h1, h2⟩ := H3.out
    go_wp2_with fail
    refine (rise_any hb g (n + 1) cap n _ _ (by omega) R3.out H3.out hgb (by omega)).mono ?_
    rintro e w4 ⟨rfl, hR4, hG4⟩
    have R4 := Lib.hid hR4
    have G4 := Lib.hid hG4
    clear hR4 hG4
    go_wp2
    go_end0
    have HB4 := H3.out.grown_ G4.out (by simp; exact hgb)
    have hl4 := R4.out.2
    refine ⟨rfl, g, cap, ⟨?_, ?_, hBb, by simp [Value.ownBlock]; exact fun h => hgb h.symm⟩, ?_, ?_⟩
    · rw [← HN.out, ← hl4]; exact HB4
    · have h5 := R4.out.1
      rw [← HN.out, ← hl4]
      unfold OwnI at h5 ⊢
      rw [← hl4] at h5 ⊢
      exact Owns.at_base h5 hBg
    · refine T2.out.trans (Turn.of_grown (S := fun k => k = g) G4.out (fun k h => by injection h with h; exact h.symm)) (fun i hi h => ?_)
      rcases GV.out with h' | h'
      · right; rw [h]; rw [ownBlock_slice] at h' ⊢; exact h'.symm
      · omega
    · rcases GV.out with h' | h'
      · left; rw [ownBlock_slice] at h' ⊢; exact h'
      · right; omega

end Go.Proofs.Ytlddileiecnkjaa

set_option linter.unusedSimpArgs false
set_option linter.unusedVariables false
namespace Go.Proofs.Ytlddileiecnkjaa
open Go.RowKit

/-- What is left when the first is taken. -/
def popL (L : List It) : List It := downI ((L.set 0 (atI L (L.length - 1))).take (L.length - 1)) 0
theorem RowI.cut {w : World} {g n c m : Nat} {L : List It} (h : RowI w g n c L) (hm : m ≤ n) : RowI w g m c (L.take m) := by
  obtain ⟨h, rfl⟩ := h
  refine ⟨?_, by rw [List.length_take]; omega⟩
  have h1 := Owns.take_ (show Owns 68 2 w g (.slice (some ⟨g, 0, none⟩) L.length c) L.length (cs2 L) from h) hm (by simp)
  unfold OwnI
  rw [cs2_take, List.length_take, Nat.min_eq_left hm]
  exact h1
theorem RowI.room {w : World} {g n c : Nat} {L : List It} (h : RowI w g n c L) : n ≤ c := by
  obtain ⟨h, rfl⟩ := h
  have h' : w.ownsRow g 68 2 (.slice (some ⟨g, 0, none⟩) L.length c) L.length (cs2 L) := h
  rcases h'.2 with ⟨e, _⟩ | ⟨g', cap, cur, e, _, _, hnc, _⟩
  · simp at e
  · injection e with e1 e2 e3
    omega
theorem RowI.setOther {w : World} {g n c : Nat} {L : List It} (h : RowI w g n c L) {p : Addr} (hp : g ≠ p.block) (u : Value) : RowI (w.setCell p u) g n c L :=
  ⟨Owns.setOther h.1 (fun g' e => by injection e with e; subst e; exact hp) u, h.2⟩
theorem RowI.set0 {w : World} {g n c : Nat} {L : List It} (h : RowI w g n c L) (x y : Int) :
    RowI ((w.setCell ⟨g, 0, none⟩ (.int .i64 x)).setCell ⟨g, 1, none⟩ (.int .i64 y)) g n c (L.set 0 (x, y)) := by
  have := (h.set 0 x y).1
  simpa using this

/-- What a pop leaves. -/
def PopPost (hb g n c : Nat) (L : List It) (w : World) (e : Ending) (w' : World) : Prop :=
  e = .returned (.agg #[.int .i64 (atI L 0).1, .int .i64 (atI L 0).2]) ∧ RowI w' g n c (popL L) ∧ HBox w' hb (.slice (some ⟨g, 0, none⟩) n c) ∧ Turn (fun k => k = hb ∨ k = g) w w'

set_option maxHeartbeats 2000000 in
theorem pop_any (hb g m c : Nat) (L : List It) (w : World) (hm : m + 1 ≤ 1048576) (hR : RowI w g (m + 1) c L) (hH : HBox w hb (.slice (some ⟨g, 0, none⟩) (m + 1) c)) (hne : hb ≠ g) :
    Calls Try.prog 153 #[.pointer (some ⟨hb, 0, none⟩)] w (PopPost hb g m c L w) := by
  have R := Lib.hid hR
  have hroom := hR.room
  obtain ⟨hfz, hg, hc⟩ := hR.cells
  have hn := hR.2
  have hbl := hH.lt
  have H := Lib.hid hH
  obtain ⟨h0, h1, h2⟩ := hH
  obtain ⟨a1, a2⟩ := hc 0 (by omega)
  obtain ⟨b1, b2⟩ := hc m (by omega)
  have f1 := hfz 0
  have f2 := hfz 1
  rw [Nat.zero_mul] at a1 a2
  clear hfz hc hR
  have HN := Lib.hid hn
  clear hn
  generalize hx : (atI L 0).1 = x at a1
  generalize hy : (atI L 0).2 = y at a2
  generalize hx' : (atI L m).1 = x' at b1
  generalize hy' : (atI L m).2 = y' at b2
  have HX := Lib.hid hx
  have HY := Lib.hid hy
  have HX' := Lib.hid hx'
  have HY' := Lib.hid hy'
  clear hx hy hx' hy'
  have i0 : (m : Int) < ((m + 1 : Nat) : Int) := by omega
  have i1 : (0 : Int) < ((m + 1 : Nat) : Int) := by omega
  have i2 : (m : Int) ≤ (c : Int) := by omega
  go_enter Try.func153, Try.ntmps153
  go_wp2_with fail
  go_region
  go_wp2_with fail
  have L1 : ((L.set 0 (x', y')).take m) = ((L.set 0 (atI L (L.length - 1))).take (L.length - 1)) := by
    rw [← HN.out, Nat.add_sub_cancel, ← HX'.out, ← HY'.out]
  have HL1 := Lib.hid L1
  clear L1
  have R1 := Lib.hid (((R.out.set0 x' y').cut (m := m) (by omega)).setOther (p := ⟨hb, 0, none⟩) (fun h => hne h.symm) (.slice (some ⟨g, 0, none⟩) m c))
  have hsz : ((((w.setCell ⟨g, 0, none⟩ (.int .i64 x')).setCell ⟨g, 1, none⟩ (.int .i64 y')).setCell ⟨hb, 0, none⟩ (.slice (some ⟨g, 0, none⟩) m c))).heap.size = w.heap.size := by simp
  have HB1 := Lib.hid (show HBox ((((w.setCell ⟨g, 0, none⟩ (.int .i64 x')).setCell ⟨g, 1, none⟩ (.int .i64 y')).setCell ⟨hb, 0, none⟩ (.slice (some ⟨g, 0, none⟩) m c))) hb (.slice (some ⟨g, 0, none⟩) m c) from ⟨by simp [go_sem, h0, hne], by simp [go_sem, h1, hne], by simp [go_sem, h2, hne]⟩)
  have T1 := Lib.hid (show Turn (fun k => k = hb ∨ k = g) w ((((w.setCell ⟨g, 0, none⟩ (.int .i64 x')).setCell ⟨g, 1, none⟩ (.int .i64 y')).setCell ⟨hb, 0, none⟩ (.slice (some ⟨g, 0, none⟩) m c))) from (((Turn.refl _ w).set (.inl (.inr rfl)) _).set (.inl (.inr rfl)) _).set (.inl (.inl rfl)) _)
  generalize ((((w.setCell ⟨g, 0, none⟩ (.int .i64 x')).setCell ⟨g, 1, none⟩ (.int .i64 y')).setCell ⟨hb, 0, none⟩ (.slice (some ⟨g, 0, none⟩) m c))) = wa at *
  refine (sink_any hb g m c 0 _ _ (by omega) (R1.out.bl (by repeat' (first | exact Bl.refl _ | with_reducible assumption | with_reducible refine Bl.drew_ ?_ | with_reducible refine Bl.drewN_ ?_ _ | with_reducible refine Bl.alloc_ ?_ _ | with_reducible refine Bl.trans_ ?_ (by assumption) | with_reducible refine Bl.trans_ ?_ (And.left (by assumption))))) (HB1.out.bl (by omega) (by repeat' (first | exact Bl.refl _ | with_reducible assumption | with_reducible refine Bl.drew_ ?_ | with_reducible refine Bl.drewN_ ?_ _ | with_reducible refine Bl.alloc_ ?_ _ | with_reducible refine Bl.trans_ ?_ (by assumption) | with_reducible refine Bl.trans_ ?_ (And.left (by assumption))))) hne (by omega)).mono ?_
  rintro e w4 ⟨rfl, hR4, hG4⟩
  have R4 := Lib.hid hR4
  have G4 := Lib.hid hG4
  clear hR4 hG4
  have hb4 := (HB1.out.bl (by omega) (show Bl wa ((wa.alloc (.cells #[.int .i64 0, .int .i64 0] 68)).alloc (.cells #[.int .i64 x, .int .i64 y] 68)).drew from (by repeat' (first | exact Bl.refl _ | with_reducible assumption | with_reducible refine Bl.drew_ ?_ | with_reducible refine Bl.drewN_ ?_ _ | with_reducible refine Bl.alloc_ ?_ _ | with_reducible refine Bl.trans_ ?_ (by assumption) | with_reducible refine Bl.trans_ ?_ (And.left (by assumption)))))).grown_ G4.out (by simp; exact hne)
  have HB4 := Lib.hid hb4
  have c1 := G4.out.cell (a := ⟨w.heap.size + 1, 0, none⟩) (v := .int .i64 x) (by simp [go_sem, ← hsz]) (by simp; omega)
  have c2 := G4.out.cell (a := ⟨w.heap.size + 1, 1, none⟩) (v := .int .i64 y) (by simp [go_sem, ← hsz]) (by simp; omega)
  have c3 := G4.out.cell (a := ⟨w.heap.size, 0, none⟩) (v := .int .i64 0) (by simp [go_sem, ← hsz]) (by simp; omega)
  have c4 := G4.out.cell (a := ⟨w.heap.size, 1, none⟩) (v := .int .i64 0) (by simp [go_sem, ← hsz]) (by simp; omega)
  have hblk := G4.out.block w.heap.size (by simp; omega) (by simp; omega)
  have f3 := (World.frozen?_of_block (a := ⟨w.heap.size, 0, none⟩) hblk).trans (show _ = false from by simp [go_sem, ← hsz])
  have f4 := (World.frozen?_of_block (a := ⟨w.heap.size, 1, none⟩) hblk).trans (show _ = false from by simp [go_sem, ← hsz])
  have HZ := Lib.hid hsz
  clear hb4 hblk hsz
  go_wp2
  refine bodyPost_ret (v := .agg #[.int .i64 x, .int .i64 y]) (by simp [results, Try.results153, go_sem, c3, c4]) rfl ⟨by rw [← HX.out, ← HY.out], ?_, ?_, ?_⟩
  · have h5 := (R4.out.setOther (p := ⟨w.heap.size, 0, none⟩) (by show g ≠ w.heap.size; omega) (.int .i64 x)).setOther (p := ⟨w.heap.size, 1, none⟩) (by show g ≠ w.heap.size; omega) (.int .i64 y)
    unfold popL
    rw [← HL1.out]
    exact h5
  · obtain ⟨k0, k1, k2⟩ := HB4.out
    have hne2 : ¬ w.heap.size = hb := by omega
    have hne3 : ¬ hb = w.heap.size := by omega
    exact ⟨by simp [go_sem, k0, hne2, hne3], by simp [go_sem, k1, hne2, hne3], by simp [go_sem, k2, hne2, hne3]⟩
  · refine Turn.set (Turn.set (T1.out.trans ((Turn.of_bl (S := fun k => k = hb ∨ k = g) (show Bl wa _ from (by repeat' (first | exact Bl.refl _ | with_reducible assumption | with_reducible refine Bl.drew_ ?_ | with_reducible refine Bl.drewN_ ?_ _ | with_reducible refine Bl.alloc_ ?_ _ | with_reducible refine Bl.trans_ ?_ (by assumption) | with_reducible refine Bl.trans_ ?_ (And.left (by assumption)))))).trans (Turn.of_grown (S := fun k => k = hb ∨ k = g) G4.out (fun k h => by injection h with h; exact .inr h.symm)) (fun i _ h => h)) (fun i _ h => h)) (.inr ?_) _) (.inr ?_) _ <;> exact Nat.le_refl _

end Go.Proofs.Ytlddileiecnkjaa

set_option linter.unusedSimpArgs false
set_option linter.unusedVariables false
namespace Go.Proofs.Ytlddileiecnkjaa

/-- None is less than what is above it. -/
def Ord (L : List It) : Prop := ∀ i, i < L.length → 0 < i → lessI (atI L i) (atI L ((i - 1) / 2)) = false

theorem atI_swap {L : List It} {i j k : Nat} (hi : i < L.length) (hj : j < L.length) : atI (swapI L i j) k = if k = j then atI L i else if k = i then atI L j else atI L k := by
  unfold swapI
  rw [atI_set (by simpa using hj)]
  split
  · rfl
  · rw [atI_set hi]
theorem swapI_perm {L : List It} {i j : Nat} (hi : i < L.length) (hj : j < L.length) : (swapI L i j).Perm L := by
  unfold swapI
  rw [atI_eq hi, atI_eq hj]
  exact List.set_set_perm hi hj

theorem upI_perm (k : Nat) : ∀ (L : List It), k < L.length → (upI L k).Perm L := by
  induction k using Nat.strongRecOn with
  | ind k ih =>
    intro L hk
    by_cases h : 0 < k ∧ lessI (atI L k) (atI L ((k - 1) / 2)) = true
    · rw [upI_step h.1 h.2]
      exact (ih _ (by omega) _ (by rw [swapI_len]; omega)).trans (swapI_perm hk (by omega))
    · rw [upI]
      simp only [h, dite_false]
      exact List.Perm.refl _

theorem upI_ord (k : Nat) : ∀ (L : List It), k < L.length → (∀ i, i < L.length → 0 < i → i ≠ k → lessI (atI L i) (atI L ((i - 1) / 2)) = false) →
    (∀ i, i < L.length → 0 < i → (i - 1) / 2 = k → 0 < k → lessI (atI L i) (atI L ((k - 1) / 2)) = false) → Ord (upI L k) := by
  induction k using Nat.strongRecOn with
  | ind k ih =>
    intro L hk h1 h2
    by_cases h : 0 < k ∧ lessI (atI L k) (atI L ((k - 1) / 2)) = true
    · obtain ⟨h0, hl⟩ := h
      rw [upI_step h0 hl]
      have hp : (k - 1) / 2 < k := by omega
      have hpl : (k - 1) / 2 < L.length := by omega
      refine ih ((k - 1) / 2) hp _ (by rw [swapI_len]; omega) (fun i hi hi0 hip => ?_) (fun i hi hi0 hip hp0 => ?_)
      · rw [swapI_len] at hi
        rw [atI_swap hk hpl, atI_swap hk hpl, if_neg hip]
        by_cases hik : i = k
        · subst hik
          rw [if_pos rfl, if_pos rfl]
          exact lessI_asymm hl
        · rw [if_neg hik]
          by_cases hpi : (i - 1) / 2 = (k - 1) / 2
          · rw [if_pos hpi]
            cases hc : lessI (atI L i) (atI L k) with
            | false => rfl
            | true =>
              have a := lessI_trans hc hl
              have b := h1 i hi hi0 hik
              rw [hpi, a] at b
              cases b
          · rw [if_neg hpi]
            by_cases hpk : (i - 1) / 2 = k
            · rw [if_pos hpk]
              exact h2 i hi hi0 hpk h0
            · rw [if_neg hpk]
              exact h1 i hi hi0 hik
      · rw [swapI_len] at hi
        have hq : ((k - 1) / 2 - 1) / 2 ≠ (k - 1) / 2 := by omega
        have hq2 : ((k - 1) / 2 - 1) / 2 ≠ k := by omega
        rw [atI_swap hk hpl, atI_swap hk hpl, if_neg hq, if_neg hq2, if_neg (by omega)]
        by_cases hik : i = k
        · rw [if_pos hik]
          exact h1 _ hpl hp0 (by omega)
        · rw [if_neg hik]
          have a := h1 i hi hi0 hik
          rw [hip] at a
          exact lessI_neg_trans a (h1 _ hpl hp0 (by omega))
    · rw [upI]
      simp only [h, dite_false]
      intro i hi hi0
      by_cases hik : i = k
      · subst hik
        cases hc : lessI (atI L i) (atI L ((i - 1) / 2)) with
        | false => rfl
        | true => exact absurd ⟨hi0, hc⟩ h
      · exact h1 i hi hi0 hik

theorem pickI_child {L : List It} {p : Nat} (h : pickI L p ≠ p) : pickI L p = 2 * p + 1 ∨ pickI L p = 2 * p + 2 := by
  unfold pickI at h ⊢
  rw [bestI] at h ⊢
  split at h
  · rename_i h1; rw [if_pos h1]; right; rfl
  · rename_i h1
    rw [if_neg h1]
    rw [bestI] at h ⊢
    split at h
    · rename_i h2; rw [if_pos h2]; left; rfl
    · exact absurd rfl h
theorem pickI_least {L : List It} {p i : Nat} (hi : i < L.length) (h : i = p ∨ i = 2 * p + 1 ∨ i = 2 * p + 2) : lessI (atI L i) (atI L (pickI L p)) = false := by
  have step : ∀ j, lessI (atI L (bestI L p j)) (atI L (bestI L p (j + 1))) = false := fun j => by
    by_cases c : 2 * p + 1 + j < L.length ∧ lessI (atI L (2 * p + 1 + j)) (atI L (bestI L p j)) = true
    · rw [bestI_yes c.1 c.2]; exact lessI_asymm c.2
    · rw [bestI, if_neg c]; exact lessI_irrefl _
  have at_ : ∀ j, 2 * p + 1 + j < L.length → lessI (atI L (2 * p + 1 + j)) (atI L (bestI L p (j + 1))) = false := fun j hj => by
    by_cases c : 2 * p + 1 + j < L.length ∧ lessI (atI L (2 * p + 1 + j)) (atI L (bestI L p j)) = true
    · rw [bestI_yes c.1 c.2]; exact lessI_irrefl _
    · rw [bestI, if_neg c]
      cases hc : lessI (atI L (2 * p + 1 + j)) (atI L (bestI L p j)) with
      | false => rfl
      | true => exact absurd ⟨hj, hc⟩ c
  unfold pickI
  rcases h with rfl | rfl | rfl
  · exact lessI_neg_trans (step 0) (step 1)
  · exact lessI_neg_trans (at_ 0 hi) (step 1)
  · exact at_ 1 hi

theorem downI_perm_aux (n : Nat) : ∀ (L : List It) (p : Nat), L.length - p = n → (downI L p).Perm L := by
  induction n using Nat.strongRecOn with
  | ind n ih =>
    intro L p hn
    by_cases h : pickI L p = p
    · rw [downI_stop h]
    · rw [downI_step h]
      have h1 := pickI_ge L p
      have h2 := pickI_lt' h
      exact (ih (L.length - pickI L p) (by omega) _ _ (by rw [swapI_len])).trans (swapI_perm (by omega) h2)
theorem downI_perm (L : List It) (p : Nat) : (downI L p).Perm L := downI_perm_aux _ L p rfl

theorem downI_ord_aux (n : Nat) : ∀ (L : List It) (p : Nat), L.length - p = n → (∀ i, i < L.length → 0 < i → (i - 1) / 2 ≠ p → lessI (atI L i) (atI L ((i - 1) / 2)) = false) →
    (∀ i, i < L.length → 0 < i → (i - 1) / 2 = p → 0 < p → lessI (atI L i) (atI L ((p - 1) / 2)) = false) → Ord (downI L p) := by
  induction n using Nat.strongRecOn with
  | ind n ih =>
    intro L p hn h1 h2
    by_cases h : pickI L p = p
    · rw [downI_stop h]
      intro i hi hi0
      by_cases hip : (i - 1) / 2 = p
      · have := pickI_least (L := L) (p := p) hi (by omega)
        rw [h] at this
        rw [hip]
        exact this
      · exact h1 i hi hi0 hip
    · have hge := pickI_ge L p
      have hlt := pickI_lt' h
      have hch := pickI_child h
      have hpl : p < L.length := by omega
      rw [downI_step h]
      generalize hm : pickI L p = m at *
      have hpm : (m - 1) / 2 = p := by omega
      refine ih (L.length - m) (by omega) _ m (by rw [swapI_len]) (fun i hi hi0 him => ?_) (fun i hi hi0 him hm0 => ?_)
      · rw [swapI_len] at hi
        rw [atI_swap hpl hlt, atI_swap hpl hlt, if_neg (show ¬ (i - 1) / 2 = m from him)]
        by_cases hi1 : i = m
        · rw [if_pos hi1, hi1, hpm, if_pos rfl]
          have := pickI_least (L := L) (p := p) hpl (.inl rfl)
          rw [hm] at this
          exact this
        · rw [if_neg hi1]
          by_cases hi2 : i = p
          · rw [if_pos hi2, if_neg (by omega)]
            rw [hi2]
            exact h2 m hlt (by omega) hpm (by omega)
          · rw [if_neg hi2]
            by_cases hip : (i - 1) / 2 = p
            · rw [if_pos hip]
              have := pickI_least (L := L) (p := p) hi (by omega)
              rw [hm] at this
              exact this
            · rw [if_neg hip]
              exact h1 i hi hi0 hip
      · rw [swapI_len] at hi
        rw [atI_swap hpl hlt, atI_swap hpl hlt, if_neg (by omega), if_neg (by omega), hpm, if_neg (by omega), if_pos rfl]
        have := h1 i hi hi0 (by omega)
        rw [him] at this
        exact this
theorem downI_ord {L : List It} {p : Nat} (h1 : ∀ i, i < L.length → 0 < i → (i - 1) / 2 ≠ p → lessI (atI L i) (atI L ((i - 1) / 2)) = false)
    (h2 : ∀ i, i < L.length → 0 < i → (i - 1) / 2 = p → 0 < p → lessI (atI L i) (atI L ((p - 1) / 2)) = false) : Ord (downI L p) := downI_ord_aux _ L p rfl h1 h2

/-- In a heap none is less than the first. -/
theorem Ord.least {L : List It} (h : Ord L) : ∀ i, i < L.length → lessI (atI L i) (atI L 0) = false := by
  intro i
  induction i using Nat.strongRecOn with
  | ind i ih =>
    intro hi
    by_cases h0 : 0 < i
    · exact lessI_neg_trans (h i hi h0) (ih _ (by omega) (by omega))
    · obtain rfl : i = 0 := by omega
      exact lessI_irrefl _

theorem atI_append {L : List It} {x : It} {i : Nat} : atI (L ++ [x]) i = if i = L.length then x else atI L i := by
  unfold atI
  rw [List.getD_eq_getElem?_getD, List.getD_eq_getElem?_getD]
  by_cases h : i = L.length
  · subst h; simp
  · rw [if_neg h]
    rcases Nat.lt_or_ge i L.length with h' | h'
    · rw [List.getElem?_append_left h']
    · rw [List.getElem?_eq_none (by simp; omega), List.getElem?_eq_none (by omega)]


end Go.Proofs.Ytlddileiecnkjaa
