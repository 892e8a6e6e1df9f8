/-
  What is proved here: the document's questions about whole lists of files. No conditions beyond those that each theorem states.
-/
import Derived.Test.YtgfmgmcpfefmkaaV7G04
import Derived.Test.YtgfmgmcpfefmkaaV7G05
set_option linter.unusedSimpArgs false
set_option linter.unusedVariables false
namespace Go.Proofs.Ytgfmgmcpfefmkaa
open Go.RowKit

theorem ord_iff : ∀ (L : List Fl), ordB L = true ↔ (∀ k (hk : k < L.length), nameB L[k].1 = true) ∧ ∀ k (hk : k + 1 < L.length), lessB (L[k]'(by omega)).1 L[k + 1].1 = true
  | [] => by simp [ordB]
  | [f] => by
    constructor
    · intro h
      have h' : nameB f.1 = true := by simpa [ordB] using h
      exact ⟨fun k hk => by obtain rfl : k = 0 := by simpa using hk
                            exact h', fun k hk => by simp at hk⟩
    · intro h
      have := h.1 0 (by simp)
      simpa [ordB] using this
  | f :: g :: r => by
    have ih := ord_iff (g :: r)
    have e : ordB (f :: g :: r) = (nameB f.1 && lessB f.1 g.1 && ordB (g :: r)) := rfl
    rw [e, Bool.and_eq_true, Bool.and_eq_true, ih]
    constructor
    · rintro ⟨⟨h1, h2⟩, h3, h4⟩
      exact ⟨fun k hk => match k, hk with
        | 0, _ => h1
        | k + 1, hk => h3 k (by simpa using hk), fun k hk => match k, hk with
        | 0, _ => h2
        | k + 1, hk => h4 k (by simpa using hk)⟩
    · rintro ⟨h1, h2⟩
      exact ⟨⟨h1 0 (by simp), h2 0 (by simp)⟩, fun k hk => h1 (k + 1) (by simpa using hk), fun k hk => h2 (k + 1) (by simpa using hk)⟩
/-- The first k files are as they should be. -/
def OrdK (L : List Fl) (k : Nat) : Prop := (∀ j (hj : j < L.length), j < k → nameB L[j].1 = true) ∧ ∀ j (hj : j + 1 < L.length), j + 1 < k → lessB (L[j]'(by omega)).1 L[j + 1].1 = true
theorem OrdK.zero (L : List Fl) : OrdK L 0 := ⟨fun j _ h => absurd h (by omega), fun j _ h => absurd h (by omega)⟩
theorem OrdK.next {L : List Fl} {k : Nat} (h : OrdK L k) (hk : k < L.length) (h1 : nameB L[k].1 = true) (h2 : 0 < k → lessB (L[k-1]'(by omega)).1 L[k].1 = true) : OrdK L (k + 1) :=
  ⟨fun j hj hjk => by
    rcases Nat.lt_or_ge j k with h' | h'
    · exact h.1 j hj h'
    · obtain rfl : j = k := by omega
      exact h1, fun j hj hjk => by
    rcases Nat.lt_or_ge (j + 1) k with h' | h'
    · exact h.2 j hj h'
    · obtain rfl : k = j + 1 := by omega
      exact h2 (by omega)⟩
theorem OrdK.all {L : List Fl} (h : OrdK L L.length) : ordB L = true := (ord_iff L).2 ⟨fun k hk => h.1 k hk hk, fun k hk => h.2 k hk hk⟩
theorem ord_no1 {L : List Fl} {k : Nat} (hk : k < L.length) (h : nameB L[k].1 = false) : ordB L = false := by
  cases e : ordB L
  · rfl
  · have := ((ord_iff L).1 e).1 k hk
    rw [h] at this
    exact absurd this (by simp)
theorem ord_no2 {L : List Fl} {k : Nat} (hk : k < L.length) (h0 : 0 < k) (h : lessB (L[k-1]'(by omega)).1 L[k].1 = false) : ordB L = false := by
  cases e : ordB L
  · rfl
  · obtain ⟨j, rfl⟩ : ∃ j, k = j + 1 := ⟨k - 1, by omega⟩
    have := ((ord_iff L).1 e).2 j hk
    simp only [Nat.add_sub_cancel] at h
    rw [h] at this
    exact absurd this (by simp)
theorem leq_not (x y : ByteArray) : (Op.bytesLess x.toList y.toList || x.toList == y.toList) = !lessB y x := by
  show (lessB x y || sameB x y) = !lessB y x
  cases h : lessB x y with
  | true => rw [lessB_asymm h]; rfl
  | false =>
    cases e : sameB x y with
    | true => rw [(sameB_iff _ _).1 e, lessB_irrefl]; rfl
    | false => rw [lessB_total h ((sameB_false _ _).1 e)]; rfl
theorem sumL_take : ∀ (L : List Fl) (k : Nat) (h : k < L.length), sumL (L.take (k + 1)) = sumL (L.take k) + L[k].2.size := fun L k h => szL_take (fun f : Fl => f.2.size) L k h
theorem sumL_le (L : List Fl) (k : Nat) : sumL (L.take k) ≤ sumL L := szL_le (fun f : Fl => f.2.size) L k

set_option maxHeartbeats 2000000 in
theorem l15Same_any (A1 A2 : Option Addr) (n1 n2 c1 c2 : Nat) (V1 V2 : List Fl) (hn1 : n1 = V1.length) (hn2 : n2 = V2.length) (w : World) (hm1 : n1 ≤ 1048576) (hm2 : n2 ≤ 1048576) (H1 : FilesAt w w.heap.size A1 V1) (H2 : FilesAt w w.heap.size A2 V2) :
    Calls Try.prog 62 #[.slice A1 n1 c1, .slice A2 n2 c2] w fun e w' => e = .returned (.bool (sameL V1 V2)) ∧ Bl w w' := by
  have K1 := Lib.hid H1
  have K2 := Lib.hid H2
  have HN1 := Lib.hid hn1
  have HN2 := Lib.hid hn2
  have qe : ∀ (a b c d : ByteArray) (w : World), (Op.equalIn 10000 86 (.agg #[.string a, .string b]) (.agg #[.string c, .string d])).run Try.prog w = .ok (sameB a c && sameB b d) w := fun a b c d w => eqIn_file 9998 a b c d w
  have qm : Try.prog.eqGuardType Try.prog.depth 86 = false := by kernel_rfl
  have QE := Lib.hid qe
  clear H1 H2 hn1 hn2 qe
  by_cases hl : n1 = n2
  · subst hl
    have hnn : ((n1 : Int) != (n1 : Int)) = false := by simp
    go_enter Try.func62, Try.ntmps62
    go_wp2_with fail
    clear hnn
    go_loopw [4, 5] (fun r i wr => ∃ k : Nat, k ≤ n1 ∧ r = .bool false ∧ i = .int .i64 k ∧ V1.take k = V2.take k ∧ Bl w wr) (fun _ i _ => n1 - (intOf i).toNat)
    case atStart => exact ⟨0, by omega, rfl, rfl, rfl, Bl.refl _⟩
    case round =>
      obtain ⟨k, hk, rfl, rfl, hT, hbl⟩ := hrel
      have HT := Lib.hid hT
      clear hT
      by_cases hlt : k < n1
      · have hk1 : k < V1.length := by have := HN1.out; omega
        have hk2 : k < V2.length := by have := HN2.out; omega
        obtain ⟨g1, o1, rfl, hg1, hc1⟩ := K1.out.cell (by omega)
        obtain ⟨g2, o2, rfl, hg2, hc2⟩ := K2.out.cell (by omega)
        obtain ⟨p1, p2⟩ := hc1 k hk1
        obtain ⟨q1, q2⟩ := hc2 k hk2
        obtain ⟨x, hx⟩ : ∃ x, x = V1[k] := ⟨_, rfl⟩
        obtain ⟨y, hy⟩ : ∃ y, y = V2[k] := ⟨_, rfl⟩
        rw [← hx] at p1 p2
        rw [← hy] at q1 q2
        have HX := Lib.hid hx
        have HY := Lib.hid hy
        have HSH := Lib.hid (show ∀ wx, Bl w wx → Bl w wx ∧ wx.cell? ⟨g1, o1 + k * 2, none⟩ = some (.string x.1) ∧ wx.cell? ⟨g1, o1 + k * 2 + 1, none⟩ = some (.string x.2) ∧ wx.cell? ⟨g2, o2 + k * 2, none⟩ = some (.string y.1) ∧ wx.cell? ⟨g2, o2 + k * 2 + 1, none⟩ = some (.string y.2) from fun wx hb => ⟨hb, ((bcell hb).1 _ _ hg1).trans p1, ((bcell hb).1 _ _ hg1).trans p2, ((bcell hb).1 _ _ hg2).trans q1, ((bcell hb).1 _ _ hg2).trans q2⟩)
        have i0 : (0 : Int) ≤ (k : Int) := by omega
        have i1 : (k : Int) < (n1 : Int) := by omega
        have qxy : ∀ w, (Op.equalIn 10000 86 (.agg #[.string x.1, .string x.2]) (.agg #[.string y.1, .string y.2])).run Try.prog w = .ok (sameB x.1 y.1 && sameB x.2 y.2) w := fun w => QE.out _ _ _ _ w
        clear hc1 hc2 hx hy p1 p2 q1 q2
        by_cases e : (sameB x.1 y.1 && sameB x.2 y.2) = true
        · rw [e] at qxy
          have FS := Lib.hid (show V1.take (k + 1) = V2.take (k + 1) from by
            rw [Bool.and_eq_true, sameB_iff, sameB_iff] at e
            rw [List.take_succ_eq_append_getElem hk1, List.take_succ_eq_append_getElem hk2, HT.out, ← HX.out, ← HY.out, Prod.ext e.1 e.2])
          clear e
          go_wp2_with fail
          refine wp_region_held_drew (S := fun wx => Bl w wx ∧ wx.cell? ⟨g1, o1 + k * 2, none⟩ = some (.string x.1) ∧ wx.cell? ⟨g1, o1 + k * 2 + 1, none⟩ = some (.string x.2) ∧ wx.cell? ⟨g2, o2 + k * 2, none⟩ = some (.string y.1) ∧ wx.cell? ⟨g2, o2 + k * 2 + 1, none⟩ = some (.string y.2)) (by kernel_rfl) ?_ (fun hHeld => ?_)
          · (exact HSH.out _ (by repeat' (first | exact Bl.refl _ | with_reducible assumption | with_reducible refine Bl.drew_ ?_ | with_reducible refine Bl.drewN_ ?_ _ | with_reducible refine Bl.alloc_ ?_ _ | with_reducible refine Bl.trans_ ?_ (by assumption) | with_reducible refine Bl.trans_ ?_ (And.left (by assumption)))))
          refine wpAnyH_take (i := 0) (v := ?_) rfl (by kernel_rfl) (by kernel_rfl) (by kernel_rfl) (fun _ _ _ h => h) (Or.inl ⟨by kernel_rfl, ?_⟩) (by assumption) ?_
          rotate_left
          · (intro wx hSw; (try dsimp only at hSw); go_simp; try (with_reducible rfl))
          try simp only [Act.put, List.getElem_toArray, List.getElem_cons_succ, List.getElem_cons_zero, List.setIfInBounds_toArray, List.set_cons_zero, List.set_cons_succ]
          refine wpAnyH_take (i := 1) (v := ?_) rfl (by kernel_rfl) (by kernel_rfl) (by kernel_rfl) (fun _ _ _ h => h) (Or.inl ⟨by kernel_rfl, ?_⟩) (by assumption) ?_
          rotate_left
          · (intro wx hSw; (try dsimp only at hSw); go_simp; try (with_reducible rfl))
          try simp only [Act.put, List.getElem_toArray, List.getElem_cons_succ, List.getElem_cons_zero, List.setIfInBounds_toArray, List.set_cons_zero, List.set_cons_succ]
          refine wpAnyH_take (i := 2) (v := ?_) rfl (by kernel_rfl) (by kernel_rfl) (by kernel_rfl) (fun _ _ _ h => h) (Or.inl ⟨by kernel_rfl, ?_⟩) (by assumption) ?_
          rotate_left
          · (intro wx hSw; (try dsimp only at hSw); go_simp; try (with_reducible rfl))
          try simp only [Act.put, List.getElem_toArray, List.getElem_cons_succ, List.getElem_cons_zero, List.setIfInBounds_toArray, List.set_cons_zero, List.set_cons_succ]
          refine wpAnyH_take (i := 3) (v := ?_) rfl (by kernel_rfl) (by kernel_rfl) (by kernel_rfl) (fun _ _ _ h => h) (Or.inl ⟨by kernel_rfl, ?_⟩) (by assumption) ?_
          rotate_left
          · (intro wx hSw; (try dsimp only at hSw); go_simp; try (with_reducible rfl))
          try simp only [Act.put, List.getElem_toArray, List.getElem_cons_succ, List.getElem_cons_zero, List.setIfInBounds_toArray, List.set_cons_zero, List.set_cons_succ]
          refine wpAnyH_take (i := 4) (v := ?_) rfl (by kernel_rfl) (by kernel_rfl) (by kernel_rfl) (fun _ _ _ h => h) (Or.inl ⟨by kernel_rfl, ?_⟩) (by assumption) ?_
          rotate_left
          · (intro wx hSw; (try dsimp only at hSw); go_simp; try (with_reducible rfl))
          try simp only [Act.put, List.getElem_toArray, List.getElem_cons_succ, List.getElem_cons_zero, List.setIfInBounds_toArray, List.set_cons_zero, List.set_cons_succ]
          refine wpAnyH_take (i := 5) (v := ?_) rfl (by kernel_rfl) (by kernel_rfl) (by kernel_rfl) (fun _ _ _ h => h) (Or.inl ⟨by kernel_rfl, ?_⟩) (by assumption) ?_
          rotate_left
          · (intro wx hSw; (try dsimp only at hSw); go_simp; try (with_reducible rfl))
          try simp only [Act.put, List.getElem_toArray, List.getElem_cons_succ, List.getElem_cons_zero, List.setIfInBounds_toArray, List.set_cons_zero, List.set_cons_succ]
          refine wpAnyH_take (i := 6) (v := ?_) rfl (by kernel_rfl) (by kernel_rfl) (by kernel_rfl) (fun _ _ _ h => h) (Or.inl ⟨by kernel_rfl, ?_⟩) (by assumption) ?_
          rotate_left
          · (intro wx hSw; (try dsimp only at hSw); go_simp; try (with_reducible rfl))
          try simp only [Act.put, List.getElem_toArray, List.getElem_cons_succ, List.getElem_cons_zero, List.setIfInBounds_toArray, List.set_cons_zero, List.set_cons_succ]
          refine wpAnyH_take (i := 7) (v := ?_) rfl (by kernel_rfl) (by kernel_rfl) (by kernel_rfl) (fun _ _ _ h => h) (Or.inl ⟨by kernel_rfl, ?_⟩) (by assumption) ?_
          rotate_left
          · (intro wx hSw; (try dsimp only at hSw); go_simp; try (with_reducible rfl))
          try simp only [Act.put, List.getElem_toArray, List.getElem_cons_succ, List.getElem_cons_zero, List.setIfInBounds_toArray, List.set_cons_zero, List.set_cons_succ]
          refine wpAnyH_take (i := 8) (v := ?_) rfl (by kernel_rfl) (by kernel_rfl) (by kernel_rfl) (fun _ _ _ h => h) (Or.inl ⟨by kernel_rfl, ?_⟩) (by assumption) ?_
          rotate_left
          · (intro wx hSw; (try dsimp only at hSw); go_simp; try (with_reducible rfl))
          try simp only [Act.put, List.getElem_toArray, List.getElem_cons_succ, List.getElem_cons_zero, List.setIfInBounds_toArray, List.set_cons_zero, List.set_cons_succ]
          refine wpAnyH_done (by kernel_rfl) ?_ _
          go_wp2
          go_roundw
          case rel => exact ⟨k + 1, by omega, rfl, by go_num, FS.out, (by repeat' (first | exact Bl.refl _ | with_reducible assumption | with_reducible refine Bl.drew_ ?_ | with_reducible refine Bl.drewN_ ?_ _ | with_reducible refine Bl.alloc_ ?_ _ | with_reducible refine Bl.trans_ ?_ (by assumption) | with_reducible refine Bl.trans_ ?_ (And.left (by assumption))))⟩
          case measure => simp [intOf]; omega
        · have e' : (sameB x.1 y.1 && sameB x.2 y.2) = false := by simpa using e
          rw [e'] at qxy
          have FN := Lib.hid (show sameL V1 V2 = false from by
            cases hs : sameL V1 V2
            · rfl
            · rw [sameL_iff] at hs
              subst hs
              have : x = y := HX.out.trans HY.out.symm
              subst this
              rw [sameB_refl, sameB_refl] at e'
              exact absurd e' (by simp))
          clear e e'
          go_wp2_with fail
          refine wp_region_held_drew (S := fun wx => Bl w wx ∧ wx.cell? ⟨g1, o1 + k * 2, none⟩ = some (.string x.1) ∧ wx.cell? ⟨g1, o1 + k * 2 + 1, none⟩ = some (.string x.2) ∧ wx.cell? ⟨g2, o2 + k * 2, none⟩ = some (.string y.1) ∧ wx.cell? ⟨g2, o2 + k * 2 + 1, none⟩ = some (.string y.2)) (by kernel_rfl) ?_ (fun hHeld => ?_)
          · (exact HSH.out _ (by repeat' (first | exact Bl.refl _ | with_reducible assumption | with_reducible refine Bl.drew_ ?_ | with_reducible refine Bl.drewN_ ?_ _ | with_reducible refine Bl.alloc_ ?_ _ | with_reducible refine Bl.trans_ ?_ (by assumption) | with_reducible refine Bl.trans_ ?_ (And.left (by assumption)))))
          refine wpAnyH_take (i := 0) (v := ?_) rfl (by kernel_rfl) (by kernel_rfl) (by kernel_rfl) (fun _ _ _ h => h) (Or.inl ⟨by kernel_rfl, ?_⟩) (by assumption) ?_
          rotate_left
          · (intro wx hSw; (try dsimp only at hSw); go_simp; try (with_reducible rfl))
          try simp only [Act.put, List.getElem_toArray, List.getElem_cons_succ, List.getElem_cons_zero, List.setIfInBounds_toArray, List.set_cons_zero, List.set_cons_succ]
          refine wpAnyH_take (i := 1) (v := ?_) rfl (by kernel_rfl) (by kernel_rfl) (by kernel_rfl) (fun _ _ _ h => h) (Or.inl ⟨by kernel_rfl, ?_⟩) (by assumption) ?_
          rotate_left
          · (intro wx hSw; (try dsimp only at hSw); go_simp; try (with_reducible rfl))
          try simp only [Act.put, List.getElem_toArray, List.getElem_cons_succ, List.getElem_cons_zero, List.setIfInBounds_toArray, List.set_cons_zero, List.set_cons_succ]
          refine wpAnyH_take (i := 2) (v := ?_) rfl (by kernel_rfl) (by kernel_rfl) (by kernel_rfl) (fun _ _ _ h => h) (Or.inl ⟨by kernel_rfl, ?_⟩) (by assumption) ?_
          rotate_left
          · (intro wx hSw; (try dsimp only at hSw); go_simp; try (with_reducible rfl))
          try simp only [Act.put, List.getElem_toArray, List.getElem_cons_succ, List.getElem_cons_zero, List.setIfInBounds_toArray, List.set_cons_zero, List.set_cons_succ]
          refine wpAnyH_take (i := 3) (v := ?_) rfl (by kernel_rfl) (by kernel_rfl) (by kernel_rfl) (fun _ _ _ h => h) (Or.inl ⟨by kernel_rfl, ?_⟩) (by assumption) ?_
          rotate_left
          · (intro wx hSw; (try dsimp only at hSw); go_simp; try (with_reducible rfl))
          try simp only [Act.put, List.getElem_toArray, List.getElem_cons_succ, List.getElem_cons_zero, List.setIfInBounds_toArray, List.set_cons_zero, List.set_cons_succ]
          refine wpAnyH_take (i := 4) (v := ?_) rfl (by kernel_rfl) (by kernel_rfl) (by kernel_rfl) (fun _ _ _ h => h) (Or.inl ⟨by kernel_rfl, ?_⟩) (by assumption) ?_
          rotate_left
          · (intro wx hSw; (try dsimp only at hSw); go_simp; try (with_reducible rfl))
          try simp only [Act.put, List.getElem_toArray, List.getElem_cons_succ, List.getElem_cons_zero, List.setIfInBounds_toArray, List.set_cons_zero, List.set_cons_succ]
          refine wpAnyH_take (i := 5) (v := ?_) rfl (by kernel_rfl) (by kernel_rfl) (by kernel_rfl) (fun _ _ _ h => h) (Or.inl ⟨by kernel_rfl, ?_⟩) (by assumption) ?_
          rotate_left
          · (intro wx hSw; (try dsimp only at hSw); go_simp; try (with_reducible rfl))
          try simp only [Act.put, List.getElem_toArray, List.getElem_cons_succ, List.getElem_cons_zero, List.setIfInBounds_toArray, List.set_cons_zero, List.set_cons_succ]
          refine wpAnyH_take (i := 6) (v := ?_) rfl (by kernel_rfl) (by kernel_rfl) (by kernel_rfl) (fun _ _ _ h => h) (Or.inl ⟨by kernel_rfl, ?_⟩) (by assumption) ?_
          rotate_left
          · (intro wx hSw; (try dsimp only at hSw); go_simp; try (with_reducible rfl))
          try simp only [Act.put, List.getElem_toArray, List.getElem_cons_succ, List.getElem_cons_zero, List.setIfInBounds_toArray, List.set_cons_zero, List.set_cons_succ]
          refine wpAnyH_take (i := 7) (v := ?_) rfl (by kernel_rfl) (by kernel_rfl) (by kernel_rfl) (fun _ _ _ h => h) (Or.inl ⟨by kernel_rfl, ?_⟩) (by assumption) ?_
          rotate_left
          · (intro wx hSw; (try dsimp only at hSw); go_simp; try (with_reducible rfl))
          try simp only [Act.put, List.getElem_toArray, List.getElem_cons_succ, List.getElem_cons_zero, List.setIfInBounds_toArray, List.set_cons_zero, List.set_cons_succ]
          refine wpAnyH_take (i := 8) (v := ?_) rfl (by kernel_rfl) (by kernel_rfl) (by kernel_rfl) (fun _ _ _ h => h) (Or.inl ⟨by kernel_rfl, ?_⟩) (by assumption) ?_
          rotate_left
          · (intro wx hSw; (try dsimp only at hSw); go_simp; try (with_reducible rfl))
          try simp only [Act.put, List.getElem_toArray, List.getElem_cons_succ, List.getElem_cons_zero, List.setIfInBounds_toArray, List.set_cons_zero, List.set_cons_succ]
          refine wpAnyH_done (by kernel_rfl) ?_ _
          go_wp2
          go_ret
          exact ⟨ret_bool FN.out.symm, (by repeat' (first | exact Bl.refl _ | with_reducible assumption | with_reducible refine Bl.drew_ ?_ | with_reducible refine Bl.drewN_ ?_ _ | with_reducible refine Bl.alloc_ ?_ _ | with_reducible refine Bl.trans_ ?_ (by assumption) | with_reducible refine Bl.trans_ ?_ (And.left (by assumption))))⟩
      · obtain rfl : k = n1 := by omega
        have FY := Lib.hid (show sameL V1 V2 = true from by
          rw [sameL_iff]
          have := HT.out
          rwa [List.take_of_length_le (by have := HN1.out; omega), List.take_of_length_le (by have := HN2.out; omega)] at this)
        go_wp2
        go_ret
        exact ⟨ret_bool FY.out.symm, hbl⟩
  · have hnn : ((n1 : Int) != (n2 : Int)) = true := by
      simp
      omega
    go_enter Try.func62, Try.ntmps62
    go_wp2
    go_ret
    refine ⟨ret_bool ?_, Bl.refl w⟩
    cases hs : sameL V1 V2
    · rfl
    · rw [sameL_iff] at hs
      subst hs
      exact absurd (HN1.out.trans HN2.out.symm) hl

end Go.Proofs.Ytgfmgmcpfefmkaa
