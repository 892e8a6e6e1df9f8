/-
  What is proved here: contracts of the laws' small functions on files and ops: marks. No conditions beyond those that each theorem states.
-/
import Derived.Test.YtipmjgciaalmbaaDKM
set_option linter.unusedSimpArgs false
set_option linter.unusedVariables false
namespace Go.Proofs.Ytipmjgciaalmbaa
open Go.RowKit


/-- The marks of an element, from k on. -/
def encMF (k : Int) : List Value := [.string (markB k), .string (markB (k + 1))]
/-- N elements from A on hold the marks from k on. -/
def MarkF (w : World) (A : Option Addr) (n : Nat) (k : Int) : Prop := 0 < n → ∃ g off, A = some ⟨g, off, none⟩ ∧ g < w.heap.size ∧ ∀ j, j < n → ∀ r v, (encMF (k + 2 * j))[r]? = some v → w.cell? ⟨g, off + j * 2 + r, none⟩ = some v
theorem MarkF.bl {w w' : World} {A : Option Addr} {n : Nat} {k : Int} (h : MarkF w A n k) (hb : Bl w w') : MarkF w' A n k := fun h0 => by
  obtain ⟨g, off, e, hg, hc⟩ := h h0
  have hh := (bcell hb).1
  exact ⟨g, off, e, Nat.lt_of_lt_of_le hg hb.size, fun j hj r v hv => by rw [hh _ _ hg]; exact hc j hj r v hv⟩
theorem MarkF.grown_ {w w' : World} {A : Option Addr} {n : Nat} {k : Int} {row : Option Nat} (h : MarkF w A n k) (hg : w.grownBy w' row) (hne : ∀ g, blockOf A = some g → some g ≠ row) : MarkF w' A n k := fun h0 => by
  obtain ⟨g, off, rfl, hlt, hc⟩ := h h0
  have hb := hg.block g hlt (hne g rfl)
  have q : ∀ o, w'.cell? ⟨g, o, none⟩ = w.cell? ⟨g, o, none⟩ := fun o => World.cell?_of_block hb
  exact ⟨g, off, rfl, Nat.lt_of_lt_of_le hlt hg.size, fun j hj r v hv => by rw [q]; exact hc j hj r v hv⟩
/-- What the marks leave. -/
def MarkedF (A : Option Addr) (n : Nat) (k : Int) (w : World) (e : Ending) (w' : World) : Prop :=
  e = .returned (.int .i64 (k + 2 * n)) ∧ MarkF w' A n k ∧ w.grownBy w' (rowOf A n) ∧ RowsW 89 2 w' A n

set_option maxHeartbeats 2000000 in
theorem markFileS_any (A : Option Addr) (n c : Nat) (k : Int) (w : World) (hn : n ≤ 1048576) (hk0 : 0 ≤ k) (hk1 : k ≤ 1099501142016) (HR : RowsW 89 2 w A n) :
    Calls Try.prog 64 #[.slice A n c, .int .i64 k] w (MarkedF A n k w) := by
  have R := Lib.hid HR
  clear HR
  rcases Nat.eq_zero_or_pos n with rfl | hpos
  · go_enter Try.func64, Try.ntmps64
    go_wp2
    refine wp_loop_rounds 1 ?_
    rw [rounds_succ]
    go_wp2
    go_ret
    exact ⟨ret_int (by simp), fun h => absurd h (by omega), World.grownBy.refl w _, R.out⟩
  · obtain ⟨g, off, m, f, rfl, hm, hr⟩ := R.out hpos
    have hg := hr.lt
    have R0 := Lib.hid hr
    clear hr R
    go_enter Try.func64, Try.ntmps64
    go_wp2
    go_loopw [1, 5] (fun q i wr => ∃ (j : Nat) (f : Nat → Value), j ≤ n ∧ i = .int .i64 j ∧ q = .int .i64 (k + 2 * j) ∧ wr.rowIs g 89 m f ∧ w.grownBy wr (some g) ∧
      ∀ t, t < j → ∀ r v, (encMF (k + 2 * t))[r]? = some v → f (off + t * 2 + r) = v) (fun _ i _ => n - (intOf i).toNat)
    case atStart => exact ⟨0, f, by omega, rfl, by simp, R0.out, World.grownBy.refl w _, fun t h => absurd h (by omega)⟩
    case round =>
      obtain ⟨j, fj, hj, rfl, rfl, hrj, hgr, hf⟩ := hrel
      have F := Lib.hid hf
      have RJ := Lib.hid hrj
      have GR := Lib.hid hgr
      clear hf hrj hgr
      by_cases hlt : j < n
      · go_wp2_with fail
        refine (markText_any _ (by omega) _).mono ?_
        rintro e w1 ⟨⟨z0, rfl, hz0⟩, hb1⟩
        have HZ0 := Lib.hid (show z0 = markB (k + 2 * (j : Int)) from hz0.trans (congrArg markB (by omega)))
        clear hz0
        have R1 := Lib.hid (World.rowIs.of_block RJ.out (Bl.block hb1 (World.rowIs.lt RJ.out)))
        have G1 := Lib.hid (grown_bl GR.out hb1)
        have c0 := R1.out.cell (i := off + j * 2) (by omega)
        have d0 := R1.out.frozen (off + j * 2)
        go_wp2_with fail
        refine (markText_any _ (by omega) _).mono ?_
        rintro e w2 ⟨⟨z1, rfl, hz1⟩, hb2⟩
        have HZ1 := Lib.hid (show z1 = markB (k + 2 * (j : Int) + 1) from hz1.trans (congrArg markB (by omega)))
        clear hz1
        have R2 := Lib.hid (World.rowIs.of_block (R1.out.set (off + j * 2) (.string z0)) (Bl.block hb2 (World.rowIs.lt (R1.out.set (off + j * 2) (.string z0)))))
        have G2 := Lib.hid (grown_bl (grown_set G1.out (.inl rfl) _) hb2)
        have c1 := R2.out.cell (i := off + j * 2 + 1) (by omega)
        have d1 := R2.out.frozen (off + j * 2 + 1)
        go_wp2
        go_roundw
        case rel =>
          refine ⟨j + 1, _, by omega, by go_num, by go_num, (R2.out.set (off + j * 2 + 1) (.string z1)), (grown_set G2.out (.inl rfl) _), fun t ht r v hv => ?_⟩
          have hr : r < 2 := by
            have := (List.getElem?_eq_some_iff.1 hv).1
            simpa [encMF] using this
          rcases Nat.lt_or_ge t j with h | h
          · rw [if_neg (by omega)]; rw [if_neg (by omega)]
            exact F.out t h r v hv
          · have e : t = j := by omega
            subst e
            have hr2 : r = 0 ∨ r = 1 := by omega
            rcases hr2 with rfl | rfl
            · rw [if_neg (by omega), if_pos (by omega)]
              have e1 : (encMF (k + 2 * (t : Int)))[0]? = some (.string (markB (k + 2 * (t : Int)))) := rfl
              rw [e1] at hv
              rw [HZ0.out]; exact Option.some.inj hv
            · rw [if_pos (by omega)]
              have e1 : (encMF (k + 2 * (t : Int)))[1]? = some (.string (markB (k + 2 * (t : Int) + 1))) := rfl
              rw [e1] at hv
              rw [HZ1.out]; exact Option.some.inj hv
        case measure => simp [intOf]; omega
      · go_wp2
        go_ret
        have e : j = n := by omega
        subst e
        refine ⟨rfl, fun _ => ⟨g, off, rfl, RJ.out.lt, fun t ht r v hv => ?_⟩, by rw [show rowOf (some ⟨g, off, none⟩) j = some g from if_neg (by omega)]; exact GR.out, fun _ => ⟨g, off, m, fj, rfl, hm, RJ.out⟩⟩
        have hr : r < 2 := by
          have := (List.getElem?_eq_some_iff.1 hv).1
          simpa [encMF] using this
        rw [← F.out t ht r v hv]
        exact RJ.out.cell (by omega)

set_option maxHeartbeats 2000000 in
theorem heldFileS_any (A : Option Addr) (n c : Nat) (k : Int) (w : World) (hn : n ≤ 1048576) (hk0 : 0 ≤ k) (hk1 : k ≤ 1099501142016) (HM : MarkF w A n k) :
    Calls Try.prog 66 #[.slice A n c, .int .i64 k] w fun e w' => e = .returned (.int .i64 (k + 2 * n)) ∧ Bl w w' := by
  have MM := Lib.hid HM
  clear HM
  rcases Nat.eq_zero_or_pos n with rfl | hpos
  · go_enter Try.func66, Try.ntmps66
    go_wp2
    refine wp_loop_rounds 1 ?_
    rw [rounds_succ]
    go_wp2
    go_ret
    exact ⟨ret_int (by simp), Bl.refl w⟩
  · obtain ⟨g, off, rfl, hg, hc⟩ := MM.out hpos
    have C := Lib.hid hc
    clear hc MM
    go_enter Try.func66, Try.ntmps66
    go_wp2
    go_loopw [1, 5] (fun q i wr => ∃ j : Nat, j ≤ n ∧ i = .int .i64 j ∧ q = .int .i64 (k + 2 * j) ∧ Bl w wr) (fun _ i _ => n - (intOf i).toNat)
    case atStart => exact ⟨0, by omega, rfl, by simp, Bl.refl w⟩
    case round =>
      obtain ⟨j, hj, rfl, rfl, hbl⟩ := hrel
      by_cases hlt : j < n
      · have z0 := C.out j hlt 0 _ rfl
        obtain ⟨y0, hy0⟩ : ∃ z, z = markB (k + 2 * (j : Int)) := ⟨_, rfl⟩
        rw [← hy0] at z0
        have HY0 := Lib.hid hy0
        have hs0 := str_self y0
        have z1 := C.out j hlt 1 _ rfl
        obtain ⟨y1, hy1⟩ : ∃ z, z = markB (k + 2 * (j : Int) + 1) := ⟨_, rfl⟩
        rw [← hy1] at z1
        have HY1 := Lib.hid hy1
        have hs1 := str_self y1
        have HS := Lib.hid (show ∀ wx, Bl w wx → Bl w wx ∧ wx.cell? ⟨g, off + j * 2, none⟩ = some (.string y0) ∧ wx.cell? ⟨g, off + j * 2 + 1, none⟩ = some (.string y1) from fun wx hb => ⟨hb, ((bcell hb).1 _ _ hg).trans z0, ((bcell hb).1 _ _ hg).trans z1⟩)
        clear z0 z1 hy0 hy1
        obtain ⟨-, u0, u1⟩ := HS.out wr hbl
        have BW := Lib.hid hbl
        go_wp2_with fail
        refine wp_region_held_drew (S := fun wx => Bl w wx ∧ wx.cell? ⟨g, off + j * 2, none⟩ = some (.string y0) ∧ wx.cell? ⟨g, off + j * 2 + 1, none⟩ = some (.string y1)) (by kernel_rfl) ?_ (fun hHeld => ?_)
        · (first | exact HS.out _ BW.out.drew_ | exact HS.out _ (BW.out.drew_.trans_ hb1))
        refine wpAnyH_take (i := 0) (v := ?_) rfl (by kernel_rfl) (by kernel_rfl) (by kernel_rfl) (fun _ _ _ h => h) (Or.inl ⟨by kernel_rfl, ?_⟩) (by assumption) ?_
        rotate_left
        · (intro wx hSw; (try dsimp only at hSw); go_simp; try (with_reducible rfl))
        try simp only [Act.put, List.getElem_toArray, List.getElem_cons_succ, List.getElem_cons_zero, List.setIfInBounds_toArray, List.set_cons_zero, List.set_cons_succ]
        refine wpAnyH_take (i := 1) (v := ?_) rfl (by kernel_rfl) (by kernel_rfl) (by kernel_rfl) (fun _ _ _ h => h) (Or.inl ⟨by kernel_rfl, ?_⟩) (by assumption) ?_
        rotate_left
        · (intro wx hSw; (try dsimp only at hSw); go_simp; try (with_reducible rfl))
        try simp only [Act.put, List.getElem_toArray, List.getElem_cons_succ, List.getElem_cons_zero, List.setIfInBounds_toArray, List.set_cons_zero, List.set_cons_succ]
        refine wpAnyH_take (i := 2) (v := ?_) rfl (by kernel_rfl) (by kernel_rfl) (by kernel_rfl) (fun _ _ _ h => h) (Or.inl ⟨by kernel_rfl, ?_⟩) (by assumption) ?_
        rotate_left
        · (intro wx hSw; (try dsimp only at hSw); go_simp; try (with_reducible rfl))
        try simp only [Act.put, List.getElem_toArray, List.getElem_cons_succ, List.getElem_cons_zero, List.setIfInBounds_toArray, List.set_cons_zero, List.set_cons_succ]
        refine wpAnyH_take (i := 3) (v := ?_) rfl (by kernel_rfl) (by kernel_rfl) (by kernel_rfl) (fun _ _ _ h => h) (Or.inl ⟨by kernel_rfl, ?_⟩) (by assumption) ?_
        rotate_left
        · (intro wx hSw; (try dsimp only at hSw); go_simp; try (with_reducible rfl))
        try simp only [Act.put, List.getElem_toArray, List.getElem_cons_succ, List.getElem_cons_zero, List.setIfInBounds_toArray, List.set_cons_zero, List.set_cons_succ]
        refine wpAnyH_take (i := 4) (v := ?_) rfl (by kernel_rfl) (by kernel_rfl) (by kernel_rfl) (fun _ _ _ h => h) (Or.inl ⟨by kernel_rfl, ?_⟩) (by assumption) ?_
        rotate_left
        · (intro wx hSw; (try dsimp only at hSw); go_simp; try (with_reducible rfl))
        try simp only [Act.put, List.getElem_toArray, List.getElem_cons_succ, List.getElem_cons_zero, List.setIfInBounds_toArray, List.set_cons_zero, List.set_cons_succ]
        refine wpAnyH_take (i := 5) (v := ?_) rfl (by kernel_rfl) (by kernel_rfl) (by kernel_rfl) (fun _ _ _ h => h) (Or.inl ⟨by kernel_rfl, ?_⟩) (by assumption) ?_
        rotate_left
        · (intro wx hSw; (try dsimp only at hSw); go_simp; try (with_reducible rfl))
        try simp only [Act.put, List.getElem_toArray, List.getElem_cons_succ, List.getElem_cons_zero, List.setIfInBounds_toArray, List.set_cons_zero, List.set_cons_succ]
        refine wpAnyH_ready (rs := [6]) (by kernel_rfl) (by simp) ?_
        refine AllReadyH.cons rfl (fun K hK => ?_) AllReadyH.nil
        go_simp
        (go_at_call 105; refine (markText_any _ (by omega) _).mono ?_; rintro e w1 ⟨⟨z', rfl, hz'⟩, hb1⟩; obtain rfl : y0 = z' := HY0.out.trans ((congrArg markB (by omega)).trans hz'.symm); clear hz')
        try (go_wp2_with fail)
        refine hK.out _ _ ?_ (fun hHeld => ?_)
        · (first | exact HS.out _ BW.out.drew_ | exact HS.out _ (BW.out.drew_.trans_ hb1))
        clear hK K
        try simp only [Act.put, List.getElem_toArray, List.getElem_cons_succ, List.getElem_cons_zero, List.setIfInBounds_toArray, List.set_cons_zero, List.set_cons_succ]
        refine wpAnyH_take (i := 7) (v := ?_) rfl (by kernel_rfl) (by kernel_rfl) (by kernel_rfl) (fun _ _ _ h => h) (Or.inl ⟨by kernel_rfl, ?_⟩) (by assumption) ?_
        rotate_left
        · (intro wx hSw; (try dsimp only at hSw); go_simp; try (with_reducible rfl))
        try simp only [Act.put, List.getElem_toArray, List.getElem_cons_succ, List.getElem_cons_zero, List.setIfInBounds_toArray, List.set_cons_zero, List.set_cons_succ]
        refine wpAnyH_done (by kernel_rfl) ?_ _
        obtain ⟨hbx0, -⟩ := hHeld
        clear BW u0 u1
        have BW := Lib.hid hbx0
        clear hHeld
        go_wp2_with fail
        refine wp_region_held_drew (S := fun wx => Bl w wx ∧ wx.cell? ⟨g, off + j * 2, none⟩ = some (.string y0) ∧ wx.cell? ⟨g, off + j * 2 + 1, none⟩ = some (.string y1)) (by kernel_rfl) ?_ (fun hHeld => ?_)
        · (first | exact HS.out _ BW.out.drew_ | exact HS.out _ (BW.out.drew_.trans_ hb1))
        refine wpAnyH_take (i := 0) (v := ?_) rfl (by kernel_rfl) (by kernel_rfl) (by kernel_rfl) (fun _ _ _ h => h) (Or.inl ⟨by kernel_rfl, ?_⟩) (by assumption) ?_
        rotate_left
        · (intro wx hSw; (try dsimp only at hSw); go_simp; try (with_reducible rfl))
        try simp only [Act.put, List.getElem_toArray, List.getElem_cons_succ, List.getElem_cons_zero, List.setIfInBounds_toArray, List.set_cons_zero, List.set_cons_succ]
        refine wpAnyH_take (i := 1) (v := ?_) rfl (by kernel_rfl) (by kernel_rfl) (by kernel_rfl) (fun _ _ _ h => h) (Or.inl ⟨by kernel_rfl, ?_⟩) (by assumption) ?_
        rotate_left
        · (intro wx hSw; (try dsimp only at hSw); go_simp; try (with_reducible rfl))
        try simp only [Act.put, List.getElem_toArray, List.getElem_cons_succ, List.getElem_cons_zero, List.setIfInBounds_toArray, List.set_cons_zero, List.set_cons_succ]
        refine wpAnyH_take (i := 2) (v := ?_) rfl (by kernel_rfl) (by kernel_rfl) (by kernel_rfl) (fun _ _ _ h => h) (Or.inl ⟨by kernel_rfl, ?_⟩) (by assumption) ?_
        rotate_left
        · (intro wx hSw; (try dsimp only at hSw); go_simp; try (with_reducible rfl))
        try simp only [Act.put, List.getElem_toArray, List.getElem_cons_succ, List.getElem_cons_zero, List.setIfInBounds_toArray, List.set_cons_zero, List.set_cons_succ]
        refine wpAnyH_take (i := 3) (v := ?_) rfl (by kernel_rfl) (by kernel_rfl) (by kernel_rfl) (fun _ _ _ h => h) (Or.inl ⟨by kernel_rfl, ?_⟩) (by assumption) ?_
        rotate_left
        · (intro wx hSw; (try dsimp only at hSw); go_simp; try (with_reducible rfl))
        try simp only [Act.put, List.getElem_toArray, List.getElem_cons_succ, List.getElem_cons_zero, List.setIfInBounds_toArray, List.set_cons_zero, List.set_cons_succ]
        refine wpAnyH_take (i := 4) (v := ?_) rfl (by kernel_rfl) (by kernel_rfl) (by kernel_rfl) (fun _ _ _ h => h) (Or.inl ⟨by kernel_rfl, ?_⟩) (by assumption) ?_
        rotate_left
        · (intro wx hSw; (try dsimp only at hSw); go_simp; try (with_reducible rfl))
        try simp only [Act.put, List.getElem_toArray, List.getElem_cons_succ, List.getElem_cons_zero, List.setIfInBounds_toArray, List.set_cons_zero, List.set_cons_succ]
        refine wpAnyH_take (i := 5) (v := ?_) rfl (by kernel_rfl) (by kernel_rfl) (by kernel_rfl) (fun _ _ _ h => h) (Or.inl ⟨by kernel_rfl, ?_⟩) (by assumption) ?_
        rotate_left
        · (intro wx hSw; (try dsimp only at hSw); go_simp; try (with_reducible rfl))
        try simp only [Act.put, List.getElem_toArray, List.getElem_cons_succ, List.getElem_cons_zero, List.setIfInBounds_toArray, List.set_cons_zero, List.set_cons_succ]
        refine wpAnyH_ready (rs := [6]) (by kernel_rfl) (by simp) ?_
        refine AllReadyH.cons rfl (fun K hK => ?_) AllReadyH.nil
        go_simp
        (go_at_call 105; refine (markText_any _ (by omega) _).mono ?_; rintro e w1 ⟨⟨z', rfl, hz'⟩, hb1⟩; obtain rfl : y1 = z' := HY1.out.trans ((congrArg markB (by omega)).trans hz'.symm); clear hz')
        try (go_wp2_with fail)
        refine hK.out _ _ ?_ (fun hHeld => ?_)
        · (first | exact HS.out _ BW.out.drew_ | exact HS.out _ (BW.out.drew_.trans_ hb1))
        clear hK K
        try simp only [Act.put, List.getElem_toArray, List.getElem_cons_succ, List.getElem_cons_zero, List.setIfInBounds_toArray, List.set_cons_zero, List.set_cons_succ]
        refine wpAnyH_take (i := 7) (v := ?_) rfl (by kernel_rfl) (by kernel_rfl) (by kernel_rfl) (fun _ _ _ h => h) (Or.inl ⟨by kernel_rfl, ?_⟩) (by assumption) ?_
        rotate_left
        · (intro wx hSw; (try dsimp only at hSw); go_simp; try (with_reducible rfl))
        try simp only [Act.put, List.getElem_toArray, List.getElem_cons_succ, List.getElem_cons_zero, List.setIfInBounds_toArray, List.set_cons_zero, List.set_cons_succ]
        refine wpAnyH_done (by kernel_rfl) ?_ _
        obtain ⟨hbx1, -⟩ := hHeld
        clear BW 
        have BW := Lib.hid hbx1
        clear hHeld
        go_wp2
        go_roundw
        case rel => exact ⟨j + 1, by omega, by go_num, by go_num, BW.out⟩
        case measure => simp [intOf]; omega
      · go_wp2
        go_ret
        have e : j = n := by omega
        subst e
        exact ⟨rfl, hbl⟩

/-- The marks of an element, from k on. -/
def encMO (k : Int) : List Value := [.int .i64 k, .string (markB (k + 1)), .string (markB (k + 2)), .string (markB (k + 3))]
/-- N elements from A on hold the marks from k on. -/
def MarkO (w : World) (A : Option Addr) (n : Nat) (k : Int) : Prop := 0 < n → ∃ g off, A = some ⟨g, off, none⟩ ∧ g < w.heap.size ∧ ∀ j, j < n → ∀ r v, (encMO (k + 4 * j))[r]? = some v → w.cell? ⟨g, off + j * 4 + r, none⟩ = some v
theorem MarkO.bl {w w' : World} {A : Option Addr} {n : Nat} {k : Int} (h : MarkO w A n k) (hb : Bl w w') : MarkO w' A n k := fun h0 => by
  obtain ⟨g, off, e, hg, hc⟩ := h h0
  have hh := (bcell hb).1
  exact ⟨g, off, e, Nat.lt_of_lt_of_le hg hb.size, fun j hj r v hv => by rw [hh _ _ hg]; exact hc j hj r v hv⟩
theorem MarkO.grown_ {w w' : World} {A : Option Addr} {n : Nat} {k : Int} {row : Option Nat} (h : MarkO w A n k) (hg : w.grownBy w' row) (hne : ∀ g, blockOf A = some g → some g ≠ row) : MarkO w' A n k := fun h0 => by
  obtain ⟨g, off, rfl, hlt, hc⟩ := h h0
  have hb := hg.block g hlt (hne g rfl)
  have q : ∀ o, w'.cell? ⟨g, o, none⟩ = w.cell? ⟨g, o, none⟩ := fun o => World.cell?_of_block hb
  exact ⟨g, off, rfl, Nat.lt_of_lt_of_le hlt hg.size, fun j hj r v hv => by rw [q]; exact hc j hj r v hv⟩
/-- What the marks leave. -/
def MarkedO (A : Option Addr) (n : Nat) (k : Int) (w : World) (e : Ending) (w' : World) : Prop :=
  e = .returned (.int .i64 (k + 4 * n)) ∧ MarkO w' A n k ∧ w.grownBy w' (rowOf A n) ∧ RowsW 45 4 w' A n

set_option maxHeartbeats 2000000 in
theorem markDOpS_any (A : Option Addr) (n c : Nat) (k : Int) (w : World) (hn : n ≤ 1048576) (hk0 : 0 ≤ k) (hk1 : k ≤ 1099501142016) (HR : RowsW 45 4 w A n) :
    Calls Try.prog 65 #[.slice A n c, .int .i64 k] w (MarkedO A n k w) := by
  have R := Lib.hid HR
  clear HR
  rcases Nat.eq_zero_or_pos n with rfl | hpos
  · go_enter Try.func65, Try.ntmps65
    go_wp2
    refine wp_loop_rounds 1 ?_
    rw [rounds_succ]
    go_wp2
    go_ret
    exact ⟨ret_int (by simp), fun h => absurd h (by omega), World.grownBy.refl w _, R.out⟩
  · obtain ⟨g, off, m, f, rfl, hm, hr⟩ := R.out hpos
    have hg := hr.lt
    have R0 := Lib.hid hr
    clear hr R
    go_enter Try.func65, Try.ntmps65
    go_wp2
    go_loopw [1, 5] (fun q i wr => ∃ (j : Nat) (f : Nat → Value), j ≤ n ∧ i = .int .i64 j ∧ q = .int .i64 (k + 4 * j) ∧ wr.rowIs g 45 m f ∧ w.grownBy wr (some g) ∧
      ∀ t, t < j → ∀ r v, (encMO (k + 4 * t))[r]? = some v → f (off + t * 4 + r) = v) (fun _ i _ => n - (intOf i).toNat)
    case atStart => exact ⟨0, f, by omega, rfl, by simp, R0.out, World.grownBy.refl w _, fun t h => absurd h (by omega)⟩
    case round =>
      obtain ⟨j, fj, hj, rfl, rfl, hrj, hgr, hf⟩ := hrel
      have F := Lib.hid hf
      have RJ := Lib.hid hrj
      have GR := Lib.hid hgr
      clear hf hrj hgr
      by_cases hlt : j < n
      · have c0 := RJ.out.cell (i := off + j * 4) (by omega)
        have d0 := RJ.out.frozen (off + j * 4)
        go_wp2_with fail
        refine (markText_any _ (by omega) _).mono ?_
        rintro e w1 ⟨⟨z1, rfl, hz1⟩, hb1⟩
        have HZ1 := Lib.hid (show z1 = markB (k + 4 * (j : Int) + 1) from hz1.trans (congrArg markB (by omega)))
        clear hz1
        have R1 := Lib.hid (World.rowIs.of_block (RJ.out.set (off + j * 4) (.int .i64 (k + 4 * (j : Int)))) (Bl.block hb1 (World.rowIs.lt (RJ.out.set (off + j * 4) (.int .i64 (k + 4 * (j : Int)))))))
        have G1 := Lib.hid (grown_bl (grown_set GR.out (.inl rfl) _) hb1)
        have c1 := R1.out.cell (i := off + j * 4 + 1) (by omega)
        have d1 := R1.out.frozen (off + j * 4 + 1)
        go_wp2_with fail
        refine (markText_any _ (by omega) _).mono ?_
        rintro e w2 ⟨⟨z2, rfl, hz2⟩, hb2⟩
        have HZ2 := Lib.hid (show z2 = markB (k + 4 * (j : Int) + 2) from hz2.trans (congrArg markB (by omega)))
        clear hz2
        have R2 := Lib.hid (World.rowIs.of_block (R1.out.set (off + j * 4 + 1) (.string z1)) (Bl.block hb2 (World.rowIs.lt (R1.out.set (off + j * 4 + 1) (.string z1)))))
        have G2 := Lib.hid (grown_bl (grown_set G1.out (.inl rfl) _) hb2)
        have c2 := R2.out.cell (i := off + j * 4 + 2) (by omega)
        have d2 := R2.out.frozen (off + j * 4 + 2)
        go_wp2_with fail
        refine (markText_any _ (by omega) _).mono ?_
        rintro e w3 ⟨⟨z3, rfl, hz3⟩, hb3⟩
        have HZ3 := Lib.hid (show z3 = markB (k + 4 * (j : Int) + 3) from hz3.trans (congrArg markB (by omega)))
        clear hz3
        have R3 := Lib.hid (World.rowIs.of_block (R2.out.set (off + j * 4 + 2) (.string z2)) (Bl.block hb3 (World.rowIs.lt (R2.out.set (off + j * 4 + 2) (.string z2)))))
        have G3 := Lib.hid (grown_bl (grown_set G2.out (.inl rfl) _) hb3)
        have c3 := R3.out.cell (i := off + j * 4 + 3) (by omega)
        have d3 := R3.out.frozen (off + j * 4 + 3)
        go_wp2
        go_roundw
        case rel =>
          refine ⟨j + 1, _, by omega, by go_num, by go_num, (R3.out.set (off + j * 4 + 3) (.string z3)), (grown_set G3.out (.inl rfl) _), fun t ht r v hv => ?_⟩
          have hr : r < 4 := by
            have := (List.getElem?_eq_some_iff.1 hv).1
            simpa [encMO] using this
          rcases Nat.lt_or_ge t j with h | h
          · rw [if_neg (by omega)]; rw [if_neg (by omega)]; rw [if_neg (by omega)]; rw [if_neg (by omega)]
            exact F.out t h r v hv
          · have e : t = j := by omega
            subst e
            have hr2 : r = 0 ∨ r = 1 ∨ r = 2 ∨ r = 3 := by omega
            rcases hr2 with rfl | rfl | rfl | rfl
            · rw [if_neg (by omega), if_neg (by omega), if_neg (by omega), if_pos (by omega)]
              have e1 : (encMO (k + 4 * (t : Int)))[0]? = some (.int .i64 (k + 4 * (t : Int))) := rfl
              rw [e1] at hv
              exact Option.some.inj hv
            · rw [if_neg (by omega), if_neg (by omega), if_pos (by omega)]
              have e1 : (encMO (k + 4 * (t : Int)))[1]? = some (.string (markB (k + 4 * (t : Int) + 1))) := rfl
              rw [e1] at hv
              rw [HZ1.out]; exact Option.some.inj hv
            · rw [if_neg (by omega), if_pos (by omega)]
              have e1 : (encMO (k + 4 * (t : Int)))[2]? = some (.string (markB (k + 4 * (t : Int) + 2))) := rfl
              rw [e1] at hv
              rw [HZ2.out]; exact Option.some.inj hv
            · rw [if_pos (by omega)]
              have e1 : (encMO (k + 4 * (t : Int)))[3]? = some (.string (markB (k + 4 * (t : Int) + 3))) := rfl
              rw [e1] at hv
              rw [HZ3.out]; exact Option.some.inj hv
        case measure => simp [intOf]; omega
      · go_wp2
        go_ret
        have e : j = n := by omega
        subst e
        refine ⟨rfl, fun _ => ⟨g, off, rfl, RJ.out.lt, fun t ht r v hv => ?_⟩, by rw [show rowOf (some ⟨g, off, none⟩) j = some g from if_neg (by omega)]; exact GR.out, fun _ => ⟨g, off, m, fj, rfl, hm, RJ.out⟩⟩
        have hr : r < 4 := by
          have := (List.getElem?_eq_some_iff.1 hv).1
          simpa [encMO] using this
        rw [← F.out t ht r v hv]
        exact RJ.out.cell (by omega)

set_option maxHeartbeats 2000000 in
theorem heldDOpS_any (A : Option Addr) (n c : Nat) (k : Int) (w : World) (hn : n ≤ 1048576) (hk0 : 0 ≤ k) (hk1 : k ≤ 1099501142016) (HM : MarkO w A n k) :
    Calls Try.prog 67 #[.slice A n c, .int .i64 k] w fun e w' => e = .returned (.int .i64 (k + 4 * n)) ∧ Bl w w' := by
  have MM := Lib.hid HM
  clear HM
  rcases Nat.eq_zero_or_pos n with rfl | hpos
  · go_enter Try.func67, Try.ntmps67
    go_wp2
    refine wp_loop_rounds 1 ?_
    rw [rounds_succ]
    go_wp2
    go_ret
    exact ⟨ret_int (by simp), Bl.refl w⟩
  · obtain ⟨g, off, rfl, hg, hc⟩ := MM.out hpos
    have C := Lib.hid hc
    clear hc MM
    go_enter Try.func67, Try.ntmps67
    go_wp2
    go_loopw [1, 5] (fun q i wr => ∃ j : Nat, j ≤ n ∧ i = .int .i64 j ∧ q = .int .i64 (k + 4 * j) ∧ Bl w wr) (fun _ i _ => n - (intOf i).toNat)
    case atStart => exact ⟨0, by omega, rfl, by simp, Bl.refl w⟩
    case round =>
      obtain ⟨j, hj, rfl, rfl, hbl⟩ := hrel
      by_cases hlt : j < n
      · have z0 := C.out j hlt 0 _ rfl
        have hs0 : (k + 4 * (j : Int) != k + 4 * (j : Int)) = false := by simp
        have z1 := C.out j hlt 1 _ rfl
        obtain ⟨y1, hy1⟩ : ∃ z, z = markB (k + 4 * (j : Int) + 1) := ⟨_, rfl⟩
        rw [← hy1] at z1
        have HY1 := Lib.hid hy1
        have hs1 := str_self y1
        have z2 := C.out j hlt 2 _ rfl
        obtain ⟨y2, hy2⟩ : ∃ z, z = markB (k + 4 * (j : Int) + 2) := ⟨_, rfl⟩
        rw [← hy2] at z2
        have HY2 := Lib.hid hy2
        have hs2 := str_self y2
        have z3 := C.out j hlt 3 _ rfl
        obtain ⟨y3, hy3⟩ : ∃ z, z = markB (k + 4 * (j : Int) + 3) := ⟨_, rfl⟩
        rw [← hy3] at z3
        have HY3 := Lib.hid hy3
        have hs3 := str_self y3
        have HS := Lib.hid (show ∀ wx, Bl w wx → Bl w wx ∧ wx.cell? ⟨g, off + j * 4, none⟩ = some (.int .i64 (k + 4 * (j : Int))) ∧ wx.cell? ⟨g, off + j * 4 + 1, none⟩ = some (.string y1) ∧ wx.cell? ⟨g, off + j * 4 + 2, none⟩ = some (.string y2) ∧ wx.cell? ⟨g, off + j * 4 + 3, none⟩ = some (.string y3) from fun wx hb => ⟨hb, ((bcell hb).1 _ _ hg).trans z0, ((bcell hb).1 _ _ hg).trans z1, ((bcell hb).1 _ _ hg).trans z2, ((bcell hb).1 _ _ hg).trans z3⟩)
        clear z0 z1 z2 z3 hy1 hy2 hy3
        obtain ⟨-, u0, u1, u2, u3⟩ := HS.out wr hbl
        have BW := Lib.hid hbl
        go_wp2_with fail
        refine wp_region_held_drew (S := fun wx => Bl w wx ∧ wx.cell? ⟨g, off + j * 4, none⟩ = some (.int .i64 (k + 4 * (j : Int))) ∧ wx.cell? ⟨g, off + j * 4 + 1, none⟩ = some (.string y1) ∧ wx.cell? ⟨g, off + j * 4 + 2, none⟩ = some (.string y2) ∧ wx.cell? ⟨g, off + j * 4 + 3, none⟩ = some (.string y3)) (by kernel_rfl) ?_ (fun hHeld => ?_)
        · (first | exact HS.out _ BW.out.drew_ | exact HS.out _ (BW.out.drew_.trans_ hb1))
        refine wpAnyH_take (i := 0) (v := ?_) rfl (by kernel_rfl) (by kernel_rfl) (by kernel_rfl) (fun _ _ _ h => h) (Or.inl ⟨by kernel_rfl, ?_⟩) (by assumption) ?_
        rotate_left
        · (intro wx hSw; (try dsimp only at hSw); go_simp; try (with_reducible rfl))
        try simp only [Act.put, List.getElem_toArray, List.getElem_cons_succ, List.getElem_cons_zero, List.setIfInBounds_toArray, List.set_cons_zero, List.set_cons_succ]
        refine wpAnyH_take (i := 1) (v := ?_) rfl (by kernel_rfl) (by kernel_rfl) (by kernel_rfl) (fun _ _ _ h => h) (Or.inl ⟨by kernel_rfl, ?_⟩) (by assumption) ?_
        rotate_left
        · (intro wx hSw; (try dsimp only at hSw); go_simp; try (with_reducible rfl))
        try simp only [Act.put, List.getElem_toArray, List.getElem_cons_succ, List.getElem_cons_zero, List.setIfInBounds_toArray, List.set_cons_zero, List.set_cons_succ]
        refine wpAnyH_take (i := 2) (v := ?_) rfl (by kernel_rfl) (by kernel_rfl) (by kernel_rfl) (fun _ _ _ h => h) (Or.inl ⟨by kernel_rfl, ?_⟩) (by assumption) ?_
        rotate_left
        · (intro wx hSw; (try dsimp only at hSw); go_simp; try (with_reducible rfl))
        try simp only [Act.put, List.getElem_toArray, List.getElem_cons_succ, List.getElem_cons_zero, List.setIfInBounds_toArray, List.set_cons_zero, List.set_cons_succ]
        refine wpAnyH_take (i := 3) (v := ?_) rfl (by kernel_rfl) (by kernel_rfl) (by kernel_rfl) (fun _ _ _ h => h) (Or.inl ⟨by kernel_rfl, ?_⟩) (by assumption) ?_
        rotate_left
        · (intro wx hSw; (try dsimp only at hSw); go_simp; try (with_reducible rfl))
        try simp only [Act.put, List.getElem_toArray, List.getElem_cons_succ, List.getElem_cons_zero, List.setIfInBounds_toArray, List.set_cons_zero, List.set_cons_succ]
        refine wpAnyH_take (i := 4) (v := ?_) rfl (by kernel_rfl) (by kernel_rfl) (by kernel_rfl) (fun _ _ _ h => h) (Or.inl ⟨by kernel_rfl, ?_⟩) (by assumption) ?_
        rotate_left
        · (intro wx hSw; (try dsimp only at hSw); go_simp; try (with_reducible rfl))
        try simp only [Act.put, List.getElem_toArray, List.getElem_cons_succ, List.getElem_cons_zero, List.setIfInBounds_toArray, List.set_cons_zero, List.set_cons_succ]
        refine wpAnyH_take (i := 5) (v := ?_) rfl (by kernel_rfl) (by kernel_rfl) (by kernel_rfl) (fun _ _ _ h => h) (Or.inl ⟨by kernel_rfl, ?_⟩) (by assumption) ?_
        rotate_left
        · (intro wx hSw; (try dsimp only at hSw); go_simp; try (with_reducible rfl))
        try simp only [Act.put, List.getElem_toArray, List.getElem_cons_succ, List.getElem_cons_zero, List.setIfInBounds_toArray, List.set_cons_zero, List.set_cons_succ]
        refine wpAnyH_ready (rs := [6]) (by kernel_rfl) (by simp) ?_
        refine AllReadyH.cons rfl (fun K hK => ?_) AllReadyH.nil
        go_simp
        (go_at_call 105; refine (markText_any _ (by omega) _).mono ?_; rintro e w1 ⟨⟨z', rfl, hz'⟩, hb1⟩; obtain rfl : y1 = z' := HY1.out.trans ((congrArg markB (by omega)).trans hz'.symm); clear hz')
        try (go_wp2_with fail)
        refine hK.out _ _ ?_ (fun hHeld => ?_)
        · (first | exact HS.out _ BW.out.drew_ | exact HS.out _ (BW.out.drew_.trans_ hb1))
        clear hK K
        try simp only [Act.put, List.getElem_toArray, List.getElem_cons_succ, List.getElem_cons_zero, List.setIfInBounds_toArray, List.set_cons_zero, List.set_cons_succ]
        refine wpAnyH_take (i := 7) (v := ?_) rfl (by kernel_rfl) (by kernel_rfl) (by kernel_rfl) (fun _ _ _ h => h) (Or.inl ⟨by kernel_rfl, ?_⟩) (by assumption) ?_
        rotate_left
        · (intro wx hSw; (try dsimp only at hSw); go_simp; try (with_reducible rfl))
        try simp only [Act.put, List.getElem_toArray, List.getElem_cons_succ, List.getElem_cons_zero, List.setIfInBounds_toArray, List.set_cons_zero, List.set_cons_succ]
        refine wpAnyH_done (by kernel_rfl) ?_ _
        obtain ⟨hbx1, -⟩ := hHeld
        clear BW u0 u1 u2 u3
        have BW := Lib.hid hbx1
        clear hHeld
        go_wp2_with fail
        refine wp_region_held_drew (S := fun wx => Bl w wx ∧ wx.cell? ⟨g, off + j * 4, none⟩ = some (.int .i64 (k + 4 * (j : Int))) ∧ wx.cell? ⟨g, off + j * 4 + 1, none⟩ = some (.string y1) ∧ wx.cell? ⟨g, off + j * 4 + 2, none⟩ = some (.string y2) ∧ wx.cell? ⟨g, off + j * 4 + 3, none⟩ = some (.string y3)) (by kernel_rfl) ?_ (fun hHeld => ?_)
        · (first | exact HS.out _ BW.out.drew_ | exact HS.out _ (BW.out.drew_.trans_ hb1))
        refine wpAnyH_take (i := 0) (v := ?_) rfl (by kernel_rfl) (by kernel_rfl) (by kernel_rfl) (fun _ _ _ h => h) (Or.inl ⟨by kernel_rfl, ?_⟩) (by assumption) ?_
        rotate_left
        · (intro wx hSw; (try dsimp only at hSw); go_simp; try (with_reducible rfl))
        try simp only [Act.put, List.getElem_toArray, List.getElem_cons_succ, List.getElem_cons_zero, List.setIfInBounds_toArray, List.set_cons_zero, List.set_cons_succ]
        refine wpAnyH_take (i := 1) (v := ?_) rfl (by kernel_rfl) (by kernel_rfl) (by kernel_rfl) (fun _ _ _ h => h) (Or.inl ⟨by kernel_rfl, ?_⟩) (by assumption) ?_
        rotate_left
        · (intro wx hSw; (try dsimp only at hSw); go_simp; try (with_reducible rfl))
        try simp only [Act.put, List.getElem_toArray, List.getElem_cons_succ, List.getElem_cons_zero, List.setIfInBounds_toArray, List.set_cons_zero, List.set_cons_succ]
        refine wpAnyH_take (i := 2) (v := ?_) rfl (by kernel_rfl) (by kernel_rfl) (by kernel_rfl) (fun _ _ _ h => h) (Or.inl ⟨by kernel_rfl, ?_⟩) (by assumption) ?_
        rotate_left
        · (intro wx hSw; (try dsimp only at hSw); go_simp; try (with_reducible rfl))
        try simp only [Act.put, List.getElem_toArray, List.getElem_cons_succ, List.getElem_cons_zero, List.setIfInBounds_toArray, List.set_cons_zero, List.set_cons_succ]
        refine wpAnyH_take (i := 3) (v := ?_) rfl (by kernel_rfl) (by kernel_rfl) (by kernel_rfl) (fun _ _ _ h => h) (Or.inl ⟨by kernel_rfl, ?_⟩) (by assumption) ?_
        rotate_left
        · (intro wx hSw; (try dsimp only at hSw); go_simp; try (with_reducible rfl))
        try simp only [Act.put, List.getElem_toArray, List.getElem_cons_succ, List.getElem_cons_zero, List.setIfInBounds_toArray, List.set_cons_zero, List.set_cons_succ]
        refine wpAnyH_take (i := 4) (v := ?_) rfl (by kernel_rfl) (by kernel_rfl) (by kernel_rfl) (fun _ _ _ h => h) (Or.inl ⟨by kernel_rfl, ?_⟩) (by assumption) ?_
        rotate_left
        · (intro wx hSw; (try dsimp only at hSw); go_simp; try (with_reducible rfl))
        try simp only [Act.put, List.getElem_toArray, List.getElem_cons_succ, List.getElem_cons_zero, List.setIfInBounds_toArray, List.set_cons_zero, List.set_cons_succ]
        refine wpAnyH_take (i := 5) (v := ?_) rfl (by kernel_rfl) (by kernel_rfl) (by kernel_rfl) (fun _ _ _ h => h) (Or.inl ⟨by kernel_rfl, ?_⟩) (by assumption) ?_
        rotate_left
        · (intro wx hSw; (try dsimp only at hSw); go_simp; try (with_reducible rfl))
        try simp only [Act.put, List.getElem_toArray, List.getElem_cons_succ, List.getElem_cons_zero, List.setIfInBounds_toArray, List.set_cons_zero, List.set_cons_succ]
        refine wpAnyH_ready (rs := [6]) (by kernel_rfl) (by simp) ?_
        refine AllReadyH.cons rfl (fun K hK => ?_) AllReadyH.nil
        go_simp
        (go_at_call 105; refine (markText_any _ (by omega) _).mono ?_; rintro e w1 ⟨⟨z', rfl, hz'⟩, hb1⟩; obtain rfl : y2 = z' := HY2.out.trans ((congrArg markB (by omega)).trans hz'.symm); clear hz')
        try (go_wp2_with fail)
        refine hK.out _ _ ?_ (fun hHeld => ?_)
        · (first | exact HS.out _ BW.out.drew_ | exact HS.out _ (BW.out.drew_.trans_ hb1))
        clear hK K
        try simp only [Act.put, List.getElem_toArray, List.getElem_cons_succ, List.getElem_cons_zero, List.setIfInBounds_toArray, List.set_cons_zero, List.set_cons_succ]
        refine wpAnyH_take (i := 7) (v := ?_) rfl (by kernel_rfl) (by kernel_rfl) (by kernel_rfl) (fun _ _ _ h => h) (Or.inl ⟨by kernel_rfl, ?_⟩) (by assumption) ?_
        rotate_left
        · (intro wx hSw; (try dsimp only at hSw); go_simp; try (with_reducible rfl))
        try simp only [Act.put, List.getElem_toArray, List.getElem_cons_succ, List.getElem_cons_zero, List.setIfInBounds_toArray, List.set_cons_zero, List.set_cons_succ]
        refine wpAnyH_done (by kernel_rfl) ?_ _
        obtain ⟨hbx2, -⟩ := hHeld
        clear BW 
        have BW := Lib.hid hbx2
        clear hHeld
        go_wp2_with fail
        refine wp_region_held_drew (S := fun wx => Bl w wx ∧ wx.cell? ⟨g, off + j * 4, none⟩ = some (.int .i64 (k + 4 * (j : Int))) ∧ wx.cell? ⟨g, off + j * 4 + 1, none⟩ = some (.string y1) ∧ wx.cell? ⟨g, off + j * 4 + 2, none⟩ = some (.string y2) ∧ wx.cell? ⟨g, off + j * 4 + 3, none⟩ = some (.string y3)) (by kernel_rfl) ?_ (fun hHeld => ?_)
        · (first | exact HS.out _ BW.out.drew_ | exact HS.out _ (BW.out.drew_.trans_ hb1))
        refine wpAnyH_take (i := 0) (v := ?_) rfl (by kernel_rfl) (by kernel_rfl) (by kernel_rfl) (fun _ _ _ h => h) (Or.inl ⟨by kernel_rfl, ?_⟩) (by assumption) ?_
        rotate_left
        · (intro wx hSw; (try dsimp only at hSw); go_simp; try (with_reducible rfl))
        try simp only [Act.put, List.getElem_toArray, List.getElem_cons_succ, List.getElem_cons_zero, List.setIfInBounds_toArray, List.set_cons_zero, List.set_cons_succ]
        refine wpAnyH_take (i := 1) (v := ?_) rfl (by kernel_rfl) (by kernel_rfl) (by kernel_rfl) (fun _ _ _ h => h) (Or.inl ⟨by kernel_rfl, ?_⟩) (by assumption) ?_
        rotate_left
        · (intro wx hSw; (try dsimp only at hSw); go_simp; try (with_reducible rfl))
        try simp only [Act.put, List.getElem_toArray, List.getElem_cons_succ, List.getElem_cons_zero, List.setIfInBounds_toArray, List.set_cons_zero, List.set_cons_succ]
        refine wpAnyH_take (i := 2) (v := ?_) rfl (by kernel_rfl) (by kernel_rfl) (by kernel_rfl) (fun _ _ _ h => h) (Or.inl ⟨by kernel_rfl, ?_⟩) (by assumption) ?_
        rotate_left
        · (intro wx hSw; (try dsimp only at hSw); go_simp; try (with_reducible rfl))
        try simp only [Act.put, List.getElem_toArray, List.getElem_cons_succ, List.getElem_cons_zero, List.setIfInBounds_toArray, List.set_cons_zero, List.set_cons_succ]
        refine wpAnyH_take (i := 3) (v := ?_) rfl (by kernel_rfl) (by kernel_rfl) (by kernel_rfl) (fun _ _ _ h => h) (Or.inl ⟨by kernel_rfl, ?_⟩) (by assumption) ?_
        rotate_left
        · (intro wx hSw; (try dsimp only at hSw); go_simp; try (with_reducible rfl))
        try simp only [Act.put, List.getElem_toArray, List.getElem_cons_succ, List.getElem_cons_zero, List.setIfInBounds_toArray, List.set_cons_zero, List.set_cons_succ]
        refine wpAnyH_take (i := 4) (v := ?_) rfl (by kernel_rfl) (by kernel_rfl) (by kernel_rfl) (fun _ _ _ h => h) (Or.inl ⟨by kernel_rfl, ?_⟩) (by assumption) ?_
        rotate_left
        · (intro wx hSw; (try dsimp only at hSw); go_simp; try (with_reducible rfl))
        try simp only [Act.put, List.getElem_toArray, List.getElem_cons_succ, List.getElem_cons_zero, List.setIfInBounds_toArray, List.set_cons_zero, List.set_cons_succ]
        refine wpAnyH_take (i := 5) (v := ?_) rfl (by kernel_rfl) (by kernel_rfl) (by kernel_rfl) (fun _ _ _ h => h) (Or.inl ⟨by kernel_rfl, ?_⟩) (by assumption) ?_
        rotate_left
        · (intro wx hSw; (try dsimp only at hSw); go_simp; try (with_reducible rfl))
        try simp only [Act.put, List.getElem_toArray, List.getElem_cons_succ, List.getElem_cons_zero, List.setIfInBounds_toArray, List.set_cons_zero, List.set_cons_succ]
        refine wpAnyH_ready (rs := [6]) (by kernel_rfl) (by simp) ?_
        refine AllReadyH.cons rfl (fun K hK => ?_) AllReadyH.nil
        go_simp
        (go_at_call 105; refine (markText_any _ (by omega) _).mono ?_; rintro e w1 ⟨⟨z', rfl, hz'⟩, hb1⟩; obtain rfl : y3 = z' := HY3.out.trans ((congrArg markB (by omega)).trans hz'.symm); clear hz')
        try (go_wp2_with fail)
        refine hK.out _ _ ?_ (fun hHeld => ?_)
        · (first | exact HS.out _ BW.out.drew_ | exact HS.out _ (BW.out.drew_.trans_ hb1))
        clear hK K
        try simp only [Act.put, List.getElem_toArray, List.getElem_cons_succ, List.getElem_cons_zero, List.setIfInBounds_toArray, List.set_cons_zero, List.set_cons_succ]
        refine wpAnyH_take (i := 7) (v := ?_) rfl (by kernel_rfl) (by kernel_rfl) (by kernel_rfl) (fun _ _ _ h => h) (Or.inl ⟨by kernel_rfl, ?_⟩) (by assumption) ?_
        rotate_left
        · (intro wx hSw; (try dsimp only at hSw); go_simp; try (with_reducible rfl))
        try simp only [Act.put, List.getElem_toArray, List.getElem_cons_succ, List.getElem_cons_zero, List.setIfInBounds_toArray, List.set_cons_zero, List.set_cons_succ]
        refine wpAnyH_done (by kernel_rfl) ?_ _
        obtain ⟨hbx3, -⟩ := hHeld
        clear BW 
        have BW := Lib.hid hbx3
        clear hHeld
        go_wp2
        go_roundw
        case rel => exact ⟨j + 1, by omega, by go_num, by go_num, BW.out⟩
        case measure => simp [intOf]; omega
      · go_wp2
        go_ret
        have e : j = n := by omega
        subst e
        exact ⟨rfl, hbl⟩

end Go.Proofs.Ytipmjgciaalmbaa
