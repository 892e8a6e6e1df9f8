/-
  What is proved here: contracts of the laws' small functions on files and ops: marks; disks are held against each other, marked, and held against their marks; two files held against each other. No conditions. No conditions beyond those that each theorem states.
-/
import Derived.Test.YtgfmgmcpfefmkaaV7G02
import Derived.Test.YtgfmgmcpfefmkaaV7G04
import Derived.Laws.StructEq
set_option linter.unusedSimpArgs false
set_option linter.unusedVariables false
namespace Go.Proofs.Ytgfmgmcpfefmkaa
open Go.RowKit


/-- The marks of an element, from k on. -/
def encMF (k : Int) : List Value := [.string (markB k), .string (markB (k + 1))]
/-- N elements from A on hold the marks from k on. -/
def MarkF (w : World) (A : Option Addr) (n : Nat) (k : Int) : Prop := 0 < n → ∃ g off, A = some ⟨g, off, none⟩ ∧ g < w.heap.size ∧ ∀ j, j < n → ∀ r v, (encMF (k + 2 * j))[r]? = some v → w.cell? ⟨g, off + j * 2 + r, none⟩ = some v
theorem MarkF.bl {w w' : World} {A : Option Addr} {n : Nat} {k : Int} (h : MarkF w A n k) (hb : Bl w w') : MarkF w' A n k := fun h0 => by
  obtain ⟨g, off, e, hg, hc⟩ := h h0
  have hh := (bcell hb).1
  exact ⟨g, off, e, Nat.lt_of_lt_of_le hg hb.size, fun j hj r v hv => by rw [hh _ _ hg]; exact hc j hj r v hv⟩
theorem MarkF.grown_ {w w' : World} {A : Option Addr} {n : Nat} {k : Int} {row : Option Nat} (h : MarkF w A n k) (hg : w.grownBy w' row) (hne : ∀ g, blockOf A = some g → some g ≠ row) : MarkF w' A n k := fun h0 => by
  obtain ⟨g, off, rfl, hlt, hc⟩ := h h0
  have hb := hg.block g hlt (hne g rfl)
  have q : ∀ o, w'.cell? ⟨g, o, none⟩ = w.cell? ⟨g, o, none⟩ := fun o => World.cell?_of_block hb
  exact ⟨g, off, rfl, Nat.lt_of_lt_of_le hlt hg.size, fun j hj r v hv => by rw [q]; exact hc j hj r v hv⟩
/-- What the marks leave. -/
def MarkedF (A : Option Addr) (n : Nat) (k : Int) (w : World) (e : Ending) (w' : World) : Prop :=
  e = .returned (.int .i64 (k + 2 * n)) ∧ MarkF w' A n k ∧ w.grownBy w' (rowOf A n) ∧ RowsW 86 2 w' A n

set_option maxHeartbeats 2000000 in
theorem markFileS_any (A : Option Addr) (n c : Nat) (k : Int) (w : World) (hn : n ≤ 1048576) (hk0 : 0 ≤ k) (hk1 : k ≤ 1099501142016) (HR : RowsW 86 2 w A n) :
    Calls Try.prog 46 #[.slice A n c, .int .i64 k] w (MarkedF A n k w) := by
  have R := Lib.hid HR
  clear HR
  rcases Nat.eq_zero_or_pos n with rfl | hpos
  · go_enter Try.func46, Try.ntmps46
    go_wp2
    refine wp_loop_rounds 1 ?_
    rw [rounds_succ]
    go_wp2
    go_ret
    exact ⟨ret_int (by simp), fun h => absurd h (by omega), World.grownBy.refl w _, R.out⟩
  · obtain ⟨g, off, m, f, rfl, hm, hr⟩ := R.out hpos
    have hg := hr.lt
    have R0 := Lib.hid hr
    clear hr R
    go_enter Try.func46, Try.ntmps46
    go_wp2
    go_loopw [1, 5] (fun q i wr => ∃ (j : Nat) (f : Nat → Value), j ≤ n ∧ i = .int .i64 j ∧ q = .int .i64 (k + 2 * j) ∧ wr.rowIs g 86 m f ∧ w.grownBy wr (some g) ∧
      ∀ t, t < j → ∀ r v, (encMF (k + 2 * t))[r]? = some v → f (off + t * 2 + r) = v) (fun _ i _ => n - (intOf i).toNat)
    case atStart => exact ⟨0, f, by omega, rfl, by simp, R0.out, World.grownBy.refl w _, fun t h => absurd h (by omega)⟩
    case round =>
      obtain ⟨j, fj, hj, rfl, rfl, hrj, hgr, hf⟩ := hrel
      have F := Lib.hid hf
      have RJ := Lib.hid hrj
      have GR := Lib.hid hgr
      clear hf hrj hgr
      by_cases hlt : j < n
      · go_wp2_with fail
        refine (markText_any _ (by omega) _).mono ?_
        rintro e w1 ⟨⟨z0, rfl, hz0⟩, hb1⟩
        have HZ0 := Lib.hid (show z0 = markB (k + 2 * (j : Int)) from hz0.trans (congrArg markB (by omega)))
        clear hz0
        have R1 := Lib.hid (World.rowIs.of_block RJ.out (Bl.block hb1 (World.rowIs.lt RJ.out)))
        have G1 := Lib.hid (grown_bl GR.out hb1)
        have c0 := R1.out.cell (i := off + j * 2) (by omega)
        have d0 := R1.out.frozen (off + j * 2)
        go_wp2_with fail
        refine (markText_any _ (by omega) _).mono ?_
        rintro e w2 ⟨⟨z1, rfl, hz1⟩, hb2⟩
        have HZ1 := Lib.hid (show z1 = markB (k + 2 * (j : Int) + 1) from hz1.trans (congrArg markB (by omega)))
        clear hz1
        have R2 := Lib.hid (World.rowIs.of_block (R1.out.set (off + j * 2) (.string z0)) (Bl.block hb2 (World.rowIs.lt (R1.out.set (off + j * 2) (.string z0)))))
        have G2 := Lib.hid (grown_bl (grown_set G1.out (.inl rfl) _) hb2)
        have c1 := R2.out.cell (i := off + j * 2 + 1) (by omega)
        have d1 := R2.out.frozen (off + j * 2 + 1)
        go_wp2
        go_roundw
        case rel =>
          refine ⟨j + 1, _, by omega, by go_num, by go_num, (R2.out.set (off + j * 2 + 1) (.string z1)), (grown_set G2.out (.inl rfl) _), fun t ht r v hv => ?_⟩
          have hr : r < 2 := by
            have := (List.getElem?_eq_some_iff.1 hv).1
            simpa [encMF] using this
          rcases Nat.lt_or_ge t j with h | h
          · rw [if_neg (by omega)]; rw [if_neg (by omega)]
            exact F.out t h r v hv
          · have e : t = j := by omega
            subst e
            have hr2 : r = 0 ∨ r = 1 := by omega
            rcases hr2 with rfl | rfl
            · rw [if_neg (by omega), if_pos (by omega)]
              have e1 : (encMF (k + 2 * (t : Int)))[0]? = some (.string (markB (k + 2 * (t : Int)))) := rfl
              rw [e1] at hv
              rw [HZ0.out]; exact Option.some.inj hv
            · rw [if_pos (by omega)]
              have e1 : (encMF (k + 2 * (t : Int)))[1]? = some (.string (markB (k + 2 * (t : Int) + 1))) := rfl
              rw [e1] at hv
              rw [HZ1.out]; exact Option.some.inj hv
        case measure => simp [intOf]; omega
      · go_wp2
        go_ret
        have e : j = n := by omega
        subst e
        refine ⟨rfl, fun _ => ⟨g, off, rfl, RJ.out.lt, fun t ht r v hv => ?_⟩, by rw [show rowOf (some ⟨g, off, none⟩) j = some g from if_neg (by omega)]; exact GR.out, fun _ => ⟨g, off, m, fj, rfl, hm, RJ.out⟩⟩
        have hr : r < 2 := by
          have := (List.getElem?_eq_some_iff.1 hv).1
          simpa [encMF] using this
        rw [← F.out t ht r v hv]
        exact RJ.out.cell (by omega)

set_option maxHeartbeats 2000000 in
theorem heldFileS_any (A : Option Addr) (n c : Nat) (k : Int) (w : World) (hn : n ≤ 1048576) (hk0 : 0 ≤ k) (hk1 : k ≤ 1099501142016) (HM : MarkF w A n k) :
    Calls Try.prog 48 #[.slice A n c, .int .i64 k] w fun e w' => e = .returned (.int .i64 (k + 2 * n)) ∧ Bl w w' := by
  have MM := Lib.hid HM
  clear HM
  rcases Nat.eq_zero_or_pos n with rfl | hpos
  · go_enter Try.func48, Try.ntmps48
    go_wp2
    refine wp_loop_rounds 1 ?_
    rw [rounds_succ]
    go_wp2
    go_ret
    exact ⟨ret_int (by simp), Bl.refl w⟩
  · obtain ⟨g, off, rfl, hg, hc⟩ := MM.out hpos
    have C := Lib.hid hc
    clear hc MM
    go_enter Try.func48, Try.ntmps48
    go_wp2
    go_loopw [1, 5] (fun q i wr => ∃ j : Nat, j ≤ n ∧ i = .int .i64 j ∧ q = .int .i64 (k + 2 * j) ∧ Bl w wr) (fun _ i _ => n - (intOf i).toNat)
    case atStart => exact ⟨0, by omega, rfl, by simp, Bl.refl w⟩
    case round =>
      obtain ⟨j, hj, rfl, rfl, hbl⟩ := hrel
      by_cases hlt : j < n
      · have z0 := C.out j hlt 0 _ rfl
        obtain ⟨y0, hy0⟩ : ∃ z, z = markB (k + 2 * (j : Int)) := ⟨_, rfl⟩
        rw [← hy0] at z0
        have HY0 := Lib.hid hy0
        have hs0 := str_self y0
        have z1 := C.out j hlt 1 _ rfl
        obtain ⟨y1, hy1⟩ : ∃ z, z = markB (k + 2 * (j : Int) + 1) := ⟨_, rfl⟩
        rw [← hy1] at z1
        have HY1 := Lib.hid hy1
        have hs1 := str_self y1
        have HS := Lib.hid (show ∀ wx, Bl w wx → Bl w wx ∧ wx.cell? ⟨g, off + j * 2, none⟩ = some (.string y0) ∧ wx.cell? ⟨g, off + j * 2 + 1, none⟩ = some (.string y1) from fun wx hb => ⟨hb, ((bcell hb).1 _ _ hg).trans z0, ((bcell hb).1 _ _ hg).trans z1⟩)
        clear z0 z1 hy0 hy1
        obtain ⟨-, u0, u1⟩ := HS.out wr hbl
        have BW := Lib.hid hbl
        go_wp2_with fail
        refine wp_region_held_drew (S := fun wx => Bl w wx ∧ wx.cell? ⟨g, off + j * 2, none⟩ = some (.string y0) ∧ wx.cell? ⟨g, off + j * 2 + 1, none⟩ = some (.string y1)) (by kernel_rfl) ?_ (fun hHeld => ?_)
        · (first | exact HS.out _ BW.out.drew_ | exact HS.out _ (BW.out.drew_.trans_ hb1))
        refine wpAnyH_take (i := 0) (v := ?_) rfl (by kernel_rfl) (by kernel_rfl) (by kernel_rfl) (fun _ _ _ h => h) (Or.inl ⟨by kernel_rfl, ?_⟩) (by assumption) ?_
        rotate_left
        · (intro wx hSw; (try dsimp only at hSw); go_simp; try (with_reducible rfl))
        try simp only [Act.put, List.getElem_toArray, List.getElem_cons_succ, List.getElem_cons_zero, List.setIfInBounds_toArray, List.set_cons_zero, List.set_cons_succ]
        refine wpAnyH_take (i := 1) (v := ?_) rfl (by kernel_rfl) (by kernel_rfl) (by kernel_rfl) (fun _ _ _ h => h) (Or.inl ⟨by kernel_rfl, ?_⟩) (by assumption) ?_
        rotate_left
        · (intro wx hSw; (try dsimp only at hSw); go_simp; try (with_reducible rfl))
        try simp only [Act.put, List.getElem_toArray, List.getElem_cons_succ, List.getElem_cons_zero, List.setIfInBounds_toArray, List.set_cons_zero, List.set_cons_succ]
        refine wpAnyH_take (i := 2) (v := ?_) rfl (by kernel_rfl) (by kernel_rfl) (by kernel_rfl) (fun _ _ _ h => h) (Or.inl ⟨by kernel_rfl, ?_⟩) (by assumption) ?_
        rotate_left
        · (intro wx hSw; (try dsimp only at hSw); go_simp; try (with_reducible rfl))
        try simp only [Act.put, List.getElem_toArray, List.getElem_cons_succ, List.getElem_cons_zero, List.setIfInBounds_toArray, List.set_cons_zero, List.set_cons_succ]
        refine wpAnyH_take (i := 3) (v := ?_) rfl (by kernel_rfl) (by kernel_rfl) (by kernel_rfl) (fun _ _ _ h => h) (Or.inl ⟨by kernel_rfl, ?_⟩) (by assumption) ?_
        rotate_left
        · (intro wx hSw; (try dsimp only at hSw); go_simp; try (with_reducible rfl))
        try simp only [Act.put, List.getElem_toArray, List.getElem_cons_succ, List.getElem_cons_zero, List.setIfInBounds_toArray, List.set_cons_zero, List.set_cons_succ]
        refine wpAnyH_take (i := 4) (v := ?_) rfl (by kernel_rfl) (by kernel_rfl) (by kernel_rfl) (fun _ _ _ h => h) (Or.inl ⟨by kernel_rfl, ?_⟩) (by assumption) ?_
        rotate_left
        · (intro wx hSw; (try dsimp only at hSw); go_simp; try (with_reducible rfl))
        try simp only [Act.put, List.getElem_toArray, List.getElem_cons_succ, List.getElem_cons_zero, List.setIfInBounds_toArray, List.set_cons_zero, List.set_cons_succ]
        refine wpAnyH_take (i := 5) (v := ?_) rfl (by kernel_rfl) (by kernel_rfl) (by kernel_rfl) (fun _ _ _ h => h) (Or.inl ⟨by kernel_rfl, ?_⟩) (by assumption) ?_
        rotate_left
        · (intro wx hSw; (try dsimp only at hSw); go_simp; try (with_reducible rfl))
        try simp only [Act.put, List.getElem_toArray, List.getElem_cons_succ, List.getElem_cons_zero, List.setIfInBounds_toArray, List.set_cons_zero, List.set_cons_succ]
        refine wpAnyH_ready (rs := [6]) (by kernel_rfl) (by simp) ?_
        refine AllReadyH.cons rfl (fun K hK => ?_) AllReadyH.nil
        go_simp
        (go_at_call 82; refine (markText_any _ (by omega) _).mono ?_; rintro e w1 ⟨⟨z', rfl, hz'⟩, hb1⟩; obtain rfl : y0 = z' := HY0.out.trans ((congrArg markB (by omega)).trans hz'.symm); clear hz')
        try (go_wp2_with fail)
        refine hK.out _ _ ?_ (fun hHeld => ?_)
        · (first | exact HS.out _ BW.out.drew_ | exact HS.out _ (BW.out.drew_.trans_ hb1))
        clear hK K
        try simp only [Act.put, List.getElem_toArray, List.getElem_cons_succ, List.getElem_cons_zero, List.setIfInBounds_toArray, List.set_cons_zero, List.set_cons_succ]
        refine wpAnyH_take (i := 7) (v := ?_) rfl (by kernel_rfl) (by kernel_rfl) (by kernel_rfl) (fun _ _ _ h => h) (Or.inl ⟨by kernel_rfl, ?_⟩) (by assumption) ?_
        rotate_left
        · (intro wx hSw; (try dsimp only at hSw); go_simp; try (with_reducible rfl))
        try simp only [Act.put, List.getElem_toArray, List.getElem_cons_succ, List.getElem_cons_zero, List.setIfInBounds_toArray, List.set_cons_zero, List.set_cons_succ]
        refine wpAnyH_done (by kernel_rfl) ?_ _
        obtain ⟨hbx0, -⟩ := hHeld
        clear BW u0 u1
        have BW := Lib.hid hbx0
        clear hHeld
        go_wp2_with fail
        refine wp_region_held_drew (S := fun wx => Bl w wx ∧ wx.cell? ⟨g, off + j * 2, none⟩ = some (.string y0) ∧ wx.cell? ⟨g, off + j * 2 + 1, none⟩ = some (.string y1)) (by kernel_rfl) ?_ (fun hHeld => ?_)
        · (first | exact HS.out _ BW.out.drew_ | exact HS.out _ (BW.out.drew_.trans_ hb1))
        refine wpAnyH_take (i := 0) (v := ?_) rfl (by kernel_rfl) (by kernel_rfl) (by kernel_rfl) (fun _ _ _ h => h) (Or.inl ⟨by kernel_rfl, ?_⟩) (by assumption) ?_
        rotate_left
        · (intro wx hSw; (try dsimp only at hSw); go_simp; try (with_reducible rfl))
        try simp only [Act.put, List.getElem_toArray, List.getElem_cons_succ, List.getElem_cons_zero, List.setIfInBounds_toArray, List.set_cons_zero, List.set_cons_succ]
        refine wpAnyH_take (i := 1) (v := ?_) rfl (by kernel_rfl) (by kernel_rfl) (by kernel_rfl) (fun _ _ _ h => h) (Or.inl ⟨by kernel_rfl, ?_⟩) (by assumption) ?_
        rotate_left
        · (intro wx hSw; (try dsimp only at hSw); go_simp; try (with_reducible rfl))
        try simp only [Act.put, List.getElem_toArray, List.getElem_cons_succ, List.getElem_cons_zero, List.setIfInBounds_toArray, List.set_cons_zero, List.set_cons_succ]
        refine wpAnyH_take (i := 2) (v := ?_) rfl (by kernel_rfl) (by kernel_rfl) (by kernel_rfl) (fun _ _ _ h => h) (Or.inl ⟨by kernel_rfl, ?_⟩) (by assumption) ?_
        rotate_left
        · (intro wx hSw; (try dsimp only at hSw); go_simp; try (with_reducible rfl))
        try simp only [Act.put, List.getElem_toArray, List.getElem_cons_succ, List.getElem_cons_zero, List.setIfInBounds_toArray, List.set_cons_zero, List.set_cons_succ]
        refine wpAnyH_take (i := 3) (v := ?_) rfl (by kernel_rfl) (by kernel_rfl) (by kernel_rfl) (fun _ _ _ h => h) (Or.inl ⟨by kernel_rfl, ?_⟩) (by assumption) ?_
        rotate_left
        · (intro wx hSw; (try dsimp only at hSw); go_simp; try (with_reducible rfl))
        try simp only [Act.put, List.getElem_toArray, List.getElem_cons_succ, List.getElem_cons_zero, List.setIfInBounds_toArray, List.set_cons_zero, List.set_cons_succ]
        refine wpAnyH_take (i := 4) (v := ?_) rfl (by kernel_rfl) (by kernel_rfl) (by kernel_rfl) (fun _ _ _ h => h) (Or.inl ⟨by kernel_rfl, ?_⟩) (by assumption) ?_
        rotate_left
        · (intro wx hSw; (try dsimp only at hSw); go_simp; try (with_reducible rfl))
        try simp only [Act.put, List.getElem_toArray, List.getElem_cons_succ, List.getElem_cons_zero, List.setIfInBounds_toArray, List.set_cons_zero, List.set_cons_succ]
        refine wpAnyH_take (i := 5) (v := ?_) rfl (by kernel_rfl) (by kernel_rfl) (by kernel_rfl) (fun _ _ _ h => h) (Or.inl ⟨by kernel_rfl, ?_⟩) (by assumption) ?_
        rotate_left
        · (intro wx hSw; (try dsimp only at hSw); go_simp; try (with_reducible rfl))
        try simp only [Act.put, List.getElem_toArray, List.getElem_cons_succ, List.getElem_cons_zero, List.setIfInBounds_toArray, List.set_cons_zero, List.set_cons_succ]
        refine wpAnyH_ready (rs := [6]) (by kernel_rfl) (by simp) ?_
        refine AllReadyH.cons rfl (fun K hK => ?_) AllReadyH.nil
        go_simp
        (go_at_call 82; refine (markText_any _ (by omega) _).mono ?_; rintro e w1 ⟨⟨z', rfl, hz'⟩, hb1⟩; obtain rfl : y1 = z' := HY1.out.trans ((congrArg markB (by omega)).trans hz'.symm); clear hz')
        try (go_wp2_with fail)
        refine hK.out _ _ ?_ (fun hHeld => ?_)
        · (first | exact HS.out _ BW.out.drew_ | exact HS.out _ (BW.out.drew_.trans_ hb1))
        clear hK K
        try simp only [Act.put, List.getElem_toArray, List.getElem_cons_succ, List.getElem_cons_zero, List.setIfInBounds_toArray, List.set_cons_zero, List.set_cons_succ]
        refine wpAnyH_take (i := 7) (v := ?_) rfl (by kernel_rfl) (by kernel_rfl) (by kernel_rfl) (fun _ _ _ h => h) (Or.inl ⟨by kernel_rfl, ?_⟩) (by assumption) ?_
        rotate_left
        · (intro wx hSw; (try dsimp only at hSw); go_simp; try (with_reducible rfl))
        try simp only [Act.put, List.getElem_toArray, List.getElem_cons_succ, List.getElem_cons_zero, List.setIfInBounds_toArray, List.set_cons_zero, List.set_cons_succ]
        refine wpAnyH_done (by kernel_rfl) ?_ _
        obtain ⟨hbx1, -⟩ := hHeld
        clear BW 
        have BW := Lib.hid hbx1
        clear hHeld
        go_wp2
        go_roundw
        case rel => exact ⟨j + 1, by omega, by go_num, by go_num, BW.out⟩
        case measure => simp [intOf]; omega
      · go_wp2
        go_ret
        have e : j = n := by omega
        subst e
        exact ⟨rfl, hbl⟩

/-- The marks of an element, from k on. -/
def encMO (k : Int) : List Value := [.int .i64 k, .string (markB (k + 1)), .string (markB (k + 2)), .string (markB (k + 3))]
/-- N elements from A on hold the marks from k on. -/
def MarkO (w : World) (A : Option Addr) (n : Nat) (k : Int) : Prop := 0 < n → ∃ g off, A = some ⟨g, off, none⟩ ∧ g < w.heap.size ∧ ∀ j, j < n → ∀ r v, (encMO (k + 4 * j))[r]? = some v → w.cell? ⟨g, off + j * 4 + r, none⟩ = some v
theorem MarkO.bl {w w' : World} {A : Option Addr} {n : Nat} {k : Int} (h : MarkO w A n k) (hb : Bl w w') : MarkO w' A n k := fun h0 => by
  obtain ⟨g, off, e, hg, hc⟩ := h h0
  have hh := (bcell hb).1
  exact ⟨g, off, e, Nat.lt_of_lt_of_le hg hb.size, fun j hj r v hv => by rw [hh _ _ hg]; exact hc j hj r v hv⟩
theorem MarkO.grown_ {w w' : World} {A : Option Addr} {n : Nat} {k : Int} {row : Option Nat} (h : MarkO w A n k) (hg : w.grownBy w' row) (hne : ∀ g, blockOf A = some g → some g ≠ row) : MarkO w' A n k := fun h0 => by
  obtain ⟨g, off, rfl, hlt, hc⟩ := h h0
  have hb := hg.block g hlt (hne g rfl)
  have q : ∀ o, w'.cell? ⟨g, o, none⟩ = w.cell? ⟨g, o, none⟩ := fun o => World.cell?_of_block hb
  exact ⟨g, off, rfl, Nat.lt_of_lt_of_le hlt hg.size, fun j hj r v hv => by rw [q]; exact hc j hj r v hv⟩
/-- What the marks leave. -/
def MarkedO (A : Option Addr) (n : Nat) (k : Int) (w : World) (e : Ending) (w' : World) : Prop :=
  e = .returned (.int .i64 (k + 4 * n)) ∧ MarkO w' A n k ∧ w.grownBy w' (rowOf A n) ∧ RowsW 51 4 w' A n

set_option maxHeartbeats 2000000 in
theorem markDOpS_any (A : Option Addr) (n c : Nat) (k : Int) (w : World) (hn : n ≤ 1048576) (hk0 : 0 ≤ k) (hk1 : k ≤ 1099501142016) (HR : RowsW 51 4 w A n) :
    Calls Try.prog 47 #[.slice A n c, .int .i64 k] w (MarkedO A n k w) := by
  have R := Lib.hid HR
  clear HR
  rcases Nat.eq_zero_or_pos n with rfl | hpos
  · go_enter Try.func47, Try.ntmps47
    go_wp2
    refine wp_loop_rounds 1 ?_
    rw [rounds_succ]
    go_wp2
    go_ret
    exact ⟨ret_int (by simp), fun h => absurd h (by omega), World.grownBy.refl w _, R.out⟩
  · obtain ⟨g, off, m, f, rfl, hm, hr⟩ := R.out hpos
    have hg := hr.lt
    have R0 := Lib.hid hr
    clear hr R
    go_enter Try.func47, Try.ntmps47
    go_wp2
    go_loopw [1, 5] (fun q i wr => ∃ (j : Nat) (f : Nat → Value), j ≤ n ∧ i = .int .i64 j ∧ q = .int .i64 (k + 4 * j) ∧ wr.rowIs g 51 m f ∧ w.grownBy wr (some g) ∧
      ∀ t, t < j → ∀ r v, (encMO (k + 4 * t))[r]? = some v → f (off + t * 4 + r) = v) (fun _ i _ => n - (intOf i).toNat)
    case atStart => exact ⟨0, f, by omega, rfl, by simp, R0.out, World.grownBy.refl w _, fun t h => absurd h (by omega)⟩
    case round =>
      obtain ⟨j, fj, hj, rfl, rfl, hrj, hgr, hf⟩ := hrel
      have F := Lib.hid hf
      have RJ := Lib.hid hrj
      have GR := Lib.hid hgr
      clear hf hrj hgr
      by_cases hlt : j < n
      · have c0 := RJ.out.cell (i := off + j * 4) (by omega)
        have d0 := RJ.out.frozen (off + j * 4)
        go_wp2_with fail
        refine (markText_any _ (by omega) _).mono ?_
        rintro e w1 ⟨⟨z1, rfl, hz1⟩, hb1⟩
        have HZ1 := Lib.hid (show z1 = markB (k + 4 * (j : Int) + 1) from hz1.trans (congrArg markB (by omega)))
        clear hz1
        have R1 := Lib.hid (World.rowIs.of_block (RJ.out.set (off + j * 4) (.int .i64 (k + 4 * (j : Int)))) (Bl.block hb1 (World.rowIs.lt (RJ.out.set (off + j * 4) (.int .i64 (k + 4 * (j : Int)))))))
        have G1 := Lib.hid (grown_bl (grown_set GR.out (.inl rfl) _) hb1)
        have c1 := R1.out.cell (i := off + j * 4 + 1) (by omega)
        have d1 := R1.out.frozen (off + j * 4 + 1)
        go_wp2_with fail
        refine (markText_any _ (by omega) _).mono ?_
        rintro e w2 ⟨⟨z2, rfl, hz2⟩, hb2⟩
        have HZ2 := Lib.hid (show z2 = markB (k + 4 * (j : Int) + 2) from hz2.trans (congrArg markB (by omega)))
        clear hz2
        have R2 := Lib.hid (World.rowIs.of_block (R1.out.set (off + j * 4 + 1) (.string z1)) (Bl.block hb2 (World.rowIs.lt (R1.out.set (off + j * 4 + 1) (.string z1)))))
        have G2 := Lib.hid (grown_bl (grown_set G1.out (.inl rfl) _) hb2)
        have c2 := R2.out.cell (i := off + j * 4 + 2) (by omega)
        have d2 := R2.out.frozen (off + j * 4 + 2)
        go_wp2_with fail
        refine (markText_any _ (by omega) _).mono ?_
        rintro e w3 ⟨⟨z3, rfl, hz3⟩, hb3⟩
        have HZ3 := Lib.hid (show z3 = markB (k + 4 * (j : Int) + 3) from hz3.trans (congrArg markB (by omega)))
        clear hz3
        have R3 := Lib.hid (World.rowIs.of_block (R2.out.set (off + j * 4 + 2) (.string z2)) (Bl.block hb3 (World.rowIs.lt (R2.out.set (off + j * 4 + 2) (.string z2)))))
        have G3 := Lib.hid (grown_bl (grown_set G2.out (.inl rfl) _) hb3)
        have c3 := R3.out.cell (i := off + j * 4 + 3) (by omega)
        have d3 := R3.out.frozen (off + j * 4 + 3)
        go_wp2
        go_roundw
        case rel =>
          refine ⟨j + 1, _, by omega, by go_num, by go_num, (R3.out.set (off + j * 4 + 3) (.string z3)), (grown_set G3.out (.inl rfl) _), fun t ht r v hv => ?_⟩
          have hr : r < 4 := by
            have := (List.getElem?_eq_some_iff.1 hv).1
            simpa [encMO] using this
          rcases Nat.lt_or_ge t j with h | h
          · rw [if_neg (by omega)]; rw [if_neg (by omega)]; rw [if_neg (by omega)]; rw [if_neg (by omega)]
            exact F.out t h r v hv
          · have e : t = j := by omega
            subst e
            have hr2 : r = 0 ∨ r = 1 ∨ r = 2 ∨ r = 3 := by omega
            rcases hr2 with rfl | rfl | rfl | rfl
            · rw [if_neg (by omega), if_neg (by omega), if_neg (by omega), if_pos (by omega)]
              have e1 : (encMO (k + 4 * (t : Int)))[0]? = some (.int .i64 (k + 4 * (t : Int))) := rfl
              rw [e1] at hv
              exact Option.some.inj hv
            · rw [if_neg (by omega), if_neg (by omega), if_pos (by omega)]
              have e1 : (encMO (k + 4 * (t : Int)))[1]? = some (.string (markB (k + 4 * (t : Int) + 1))) := rfl
              rw [e1] at hv
              rw [HZ1.out]; exact Option.some.inj hv
            · rw [if_neg (by omega), if_pos (by omega)]
              have e1 : (encMO (k + 4 * (t : Int)))[2]? = some (.string (markB (k + 4 * (t : Int) + 2))) := rfl
              rw [e1] at hv
              rw [HZ2.out]; exact Option.some.inj hv
            · rw [if_pos (by omega)]
              have e1 : (encMO (k + 4 * (t : Int)))[3]? = some (.string (markB (k + 4 * (t : Int) + 3))) := rfl
              rw [e1] at hv
              rw [HZ3.out]; exact Option.some.inj hv
        case measure => simp [intOf]; omega
      · go_wp2
        go_ret
        have e : j = n := by omega
        subst e
        refine ⟨rfl, fun _ => ⟨g, off, rfl, RJ.out.lt, fun t ht r v hv => ?_⟩, by rw [show rowOf (some ⟨g, off, none⟩) j = some g from if_neg (by omega)]; exact GR.out, fun _ => ⟨g, off, m, fj, rfl, hm, RJ.out⟩⟩
        have hr : r < 4 := by
          have := (List.getElem?_eq_some_iff.1 hv).1
          simpa [encMO] using this
        rw [← F.out t ht r v hv]
        exact RJ.out.cell (by omega)

set_option maxHeartbeats 2000000 in
theorem heldDOpS_any (A : Option Addr) (n c : Nat) (k : Int) (w : World) (hn : n ≤ 1048576) (hk0 : 0 ≤ k) (hk1 : k ≤ 1099501142016) (HM : MarkO w A n k) :
    Calls Try.prog 49 #[.slice A n c, .int .i64 k] w fun e w' => e = .returned (.int .i64 (k + 4 * n)) ∧ Bl w w' := by
  have MM := Lib.hid HM
  clear HM
  rcases Nat.eq_zero_or_pos n with rfl | hpos
  · go_enter Try.func49, Try.ntmps49
    go_wp2
    refine wp_loop_rounds 1 ?_
    rw [rounds_succ]
    go_wp2
    go_ret
    exact ⟨ret_int (by simp), Bl.refl w⟩
  · obtain ⟨g, off, rfl, hg, hc⟩ := MM.out hpos
    have C := Lib.hid hc
    clear hc MM
    go_enter Try.func49, Try.ntmps49
    go_wp2
    go_loopw [1, 5] (fun q i wr => ∃ j : Nat, j ≤ n ∧ i = .int .i64 j ∧ q = .int .i64 (k + 4 * j) ∧ Bl w wr) (fun _ i _ => n - (intOf i).toNat)
    case atStart => exact ⟨0, by omega, rfl, by simp, Bl.refl w⟩
    case round =>
      obtain ⟨j, hj, rfl, rfl, hbl⟩ := hrel
      by_cases hlt : j < n
      · have z0 := C.out j hlt 0 _ rfl
        have hs0 : (k + 4 * (j : Int) != k + 4 * (j : Int)) = false := by simp
        have z1 := C.out j hlt 1 _ rfl
        obtain ⟨y1, hy1⟩ : ∃ z, z = markB (k + 4 * (j : Int) + 1) := ⟨_, rfl⟩
        rw [← hy1] at z1
        have HY1 := Lib.hid hy1
        have hs1 := str_self y1
        have z2 := C.out j hlt 2 _ rfl
        obtain ⟨y2, hy2⟩ : ∃ z, z = markB (k + 4 * (j : Int) + 2) := ⟨_, rfl⟩
        rw [← hy2] at z2
        have HY2 := Lib.hid hy2
        have hs2 := str_self y2
        have z3 := C.out j hlt 3 _ rfl
        obtain ⟨y3, hy3⟩ : ∃ z, z = markB (k + 4 * (j : Int) + 3) := ⟨_, rfl⟩
        rw [← hy3] at z3
        have HY3 := Lib.hid hy3
        have hs3 := str_self y3
        have HS := Lib.hid (show ∀ wx, Bl w wx → Bl w wx ∧ wx.cell? ⟨g, off + j * 4, none⟩ = some (.int .i64 (k + 4 * (j : Int))) ∧ wx.cell? ⟨g, off + j * 4 + 1, none⟩ = some (.string y1) ∧ wx.cell? ⟨g, off + j * 4 + 2, none⟩ = some (.string y2) ∧ wx.cell? ⟨g, off + j * 4 + 3, none⟩ = some (.string y3) from fun wx hb => ⟨hb, ((bcell hb).1 _ _ hg).trans z0, ((bcell hb).1 _ _ hg).trans z1, ((bcell hb).1 _ _ hg).trans z2, ((bcell hb).1 _ _ hg).trans z3⟩)
        clear z0 z1 z2 z3 hy1 hy2 hy3
        obtain ⟨-, u0, u1, u2, u3⟩ := HS.out wr hbl
        have BW := Lib.hid hbl
        go_wp2_with fail
        refine wp_region_held_drew (S := fun wx => Bl w wx ∧ wx.cell? ⟨g, off + j * 4, none⟩ = some (.int .i64 (k + 4 * (j : Int))) ∧ wx.cell? ⟨g, off + j * 4 + 1, none⟩ = some (.string y1) ∧ wx.cell? ⟨g, off + j * 4 + 2, none⟩ = some (.string y2) ∧ wx.cell? ⟨g, off + j * 4 + 3, none⟩ = some (.string y3)) (by kernel_rfl) ?_ (fun hHeld => ?_)
        · (first | exact HS.out _ BW.out.drew_ | exact HS.out _ (BW.out.drew_.trans_ hb1))
        refine wpAnyH_take (i := 0) (v := ?_) rfl (by kernel_rfl) (by kernel_rfl) (by kernel_rfl) (fun _ _ _ h => h) (Or.inl ⟨by kernel_rfl, ?_⟩) (by assumption) ?_
        rotate_left
        · (intro wx hSw; (try dsimp only at hSw); go_simp; try (with_reducible rfl))
        try simp only [Act.put, List.getElem_toArray, List.getElem_cons_succ, List.getElem_cons_zero, List.setIfInBounds_toArray, List.set_cons_zero, List.set_cons_succ]
        refine wpAnyH_take (i := 1) (v := ?_) rfl (by kernel_rfl) (by kernel_rfl) (by kernel_rfl) (fun _ _ _ h => h) (Or.inl ⟨by kernel_rfl, ?_⟩) (by assumption) ?_
        rotate_left
        · (intro wx hSw; (try dsimp only at hSw); go_simp; try (with_reducible rfl))
        try simp only [Act.put, List.getElem_toArray, List.getElem_cons_succ, List.getElem_cons_zero, List.setIfInBounds_toArray, List.set_cons_zero, List.set_cons_succ]
        refine wpAnyH_take (i := 2) (v := ?_) rfl (by kernel_rfl) (by kernel_rfl) (by kernel_rfl) (fun _ _ _ h => h) (Or.inl ⟨by kernel_rfl, ?_⟩) (by assumption) ?_
        rotate_left
        · (intro wx hSw; (try dsimp only at hSw); go_simp; try (with_reducible rfl))
        try simp only [Act.put, List.getElem_toArray, List.getElem_cons_succ, List.getElem_cons_zero, List.setIfInBounds_toArray, List.set_cons_zero, List.set_cons_succ]
        refine wpAnyH_take (i := 3) (v := ?_) rfl (by kernel_rfl) (by kernel_rfl) (by kernel_rfl) (fun _ _ _ h => h) (Or.inl ⟨by kernel_rfl, ?_⟩) (by assumption) ?_
        rotate_left
        · (intro wx hSw; (try dsimp only at hSw); go_simp; try (with_reducible rfl))
        try simp only [Act.put, List.getElem_toArray, List.getElem_cons_succ, List.getElem_cons_zero, List.setIfInBounds_toArray, List.set_cons_zero, List.set_cons_succ]
        refine wpAnyH_take (i := 4) (v := ?_) rfl (by kernel_rfl) (by kernel_rfl) (by kernel_rfl) (fun _ _ _ h => h) (Or.inl ⟨by kernel_rfl, ?_⟩) (by assumption) ?_
        rotate_left
        · (intro wx hSw; (try dsimp only at hSw); go_simp; try (with_reducible rfl))
        try simp only [Act.put, List.getElem_toArray, List.getElem_cons_succ, List.getElem_cons_zero, List.setIfInBounds_toArray, List.set_cons_zero, List.set_cons_succ]
        refine wpAnyH_take (i := 5) (v := ?_) rfl (by kernel_rfl) (by kernel_rfl) (by kernel_rfl) (fun _ _ _ h => h) (Or.inl ⟨by kernel_rfl, ?_⟩) (by assumption) ?_
        rotate_left
        · (intro wx hSw; (try dsimp only at hSw); go_simp; try (with_reducible rfl))
        try simp only [Act.put, List.getElem_toArray, List.getElem_cons_succ, List.getElem_cons_zero, List.setIfInBounds_toArray, List.set_cons_zero, List.set_cons_succ]
        refine wpAnyH_ready (rs := [6]) (by kernel_rfl) (by simp) ?_
        refine AllReadyH.cons rfl (fun K hK => ?_) AllReadyH.nil
        go_simp
        (go_at_call 82; refine (markText_any _ (by omega) _).mono ?_; rintro e w1 ⟨⟨z', rfl, hz'⟩, hb1⟩; obtain rfl : y1 = z' := HY1.out.trans ((congrArg markB (by omega)).trans hz'.symm); clear hz')
        try (go_wp2_with fail)
        refine hK.out _ _ ?_ (fun hHeld => ?_)
        · (first | exact HS.out _ BW.out.drew_ | exact HS.out _ (BW.out.drew_.trans_ hb1))
        clear hK K
        try simp only [Act.put, List.getElem_toArray, List.getElem_cons_succ, List.getElem_cons_zero, List.setIfInBounds_toArray, List.set_cons_zero, List.set_cons_succ]
        refine wpAnyH_take (i := 7) (v := ?_) rfl (by kernel_rfl) (by kernel_rfl) (by kernel_rfl) (fun _ _ _ h => h) (Or.inl ⟨by kernel_rfl, ?_⟩) (by assumption) ?_
        rotate_left
        · (intro wx hSw; (try dsimp only at hSw); go_simp; try (with_reducible rfl))
        try simp only [Act.put, List.getElem_toArray, List.getElem_cons_succ, List.getElem_cons_zero, List.setIfInBounds_toArray, List.set_cons_zero, List.set_cons_succ]
        refine wpAnyH_done (by kernel_rfl) ?_ _
        obtain ⟨hbx1, -⟩ := hHeld
        clear BW u0 u1 u2 u3
        have BW := Lib.hid hbx1
        clear hHeld
        go_wp2_with fail
        refine wp_region_held_drew (S := fun wx => Bl w wx ∧ wx.cell? ⟨g, off + j * 4, none⟩ = some (.int .i64 (k + 4 * (j : Int))) ∧ wx.cell? ⟨g, off + j * 4 + 1, none⟩ = some (.string y1) ∧ wx.cell? ⟨g, off + j * 4 + 2, none⟩ = some (.string y2) ∧ wx.cell? ⟨g, off + j * 4 + 3, none⟩ = some (.string y3)) (by kernel_rfl) ?_ (fun hHeld => ?_)
        · (first | exact HS.out _ BW.out.drew_ | exact HS.out _ (BW.out.drew_.trans_ hb1))
        refine wpAnyH_take (i := 0) (v := ?_) rfl (by kernel_rfl) (by kernel_rfl) (by kernel_rfl) (fun _ _ _ h => h) (Or.inl ⟨by kernel_rfl, ?_⟩) (by assumption) ?_
        rotate_left
        · (intro wx hSw; (try dsimp only at hSw); go_simp; try (with_reducible rfl))
        try simp only [Act.put, List.getElem_toArray, List.getElem_cons_succ, List.getElem_cons_zero, List.setIfInBounds_toArray, List.set_cons_zero, List.set_cons_succ]
        refine wpAnyH_take (i := 1) (v := ?_) rfl (by kernel_rfl) (by kernel_rfl) (by kernel_rfl) (fun _ _ _ h => h) (Or.inl ⟨by kernel_rfl, ?_⟩) (by assumption) ?_
        rotate_left
        · (intro wx hSw; (try dsimp only at hSw); go_simp; try (with_reducible rfl))
        try simp only [Act.put, List.getElem_toArray, List.getElem_cons_succ, List.getElem_cons_zero, List.setIfInBounds_toArray, List.set_cons_zero, List.set_cons_succ]
        refine wpAnyH_take (i := 2) (v := ?_) rfl (by kernel_rfl) (by kernel_rfl) (by kernel_rfl) (fun _ _ _ h => h) (Or.inl ⟨by kernel_rfl, ?_⟩) (by assumption) ?_
        rotate_left
        · (intro wx hSw; (try dsimp only at hSw); go_simp; try (with_reducible rfl))
        try simp only [Act.put, List.getElem_toArray, List.getElem_cons_succ, List.getElem_cons_zero, List.setIfInBounds_toArray, List.set_cons_zero, List.set_cons_succ]
        refine wpAnyH_take (i := 3) (v := ?_) rfl (by kernel_rfl) (by kernel_rfl) (by kernel_rfl) (fun _ _ _ h => h) (Or.inl ⟨by kernel_rfl, ?_⟩) (by assumption) ?_
        rotate_left
        · (intro wx hSw; (try dsimp only at hSw); go_simp; try (with_reducible rfl))
        try simp only [Act.put, List.getElem_toArray, List.getElem_cons_succ, List.getElem_cons_zero, List.setIfInBounds_toArray, List.set_cons_zero, List.set_cons_succ]
        refine wpAnyH_take (i := 4) (v := ?_) rfl (by kernel_rfl) (by kernel_rfl) (by kernel_rfl) (fun _ _ _ h => h) (Or.inl ⟨by kernel_rfl, ?_⟩) (by assumption) ?_
        rotate_left
        · (intro wx hSw; (try dsimp only at hSw); go_simp; try (with_reducible rfl))
        try simp only [Act.put, List.getElem_toArray, List.getElem_cons_succ, List.getElem_cons_zero, List.setIfInBounds_toArray, List.set_cons_zero, List.set_cons_succ]
        refine wpAnyH_take (i := 5) (v := ?_) rfl (by kernel_rfl) (by kernel_rfl) (by kernel_rfl) (fun _ _ _ h => h) (Or.inl ⟨by kernel_rfl, ?_⟩) (by assumption) ?_
        rotate_left
        · (intro wx hSw; (try dsimp only at hSw); go_simp; try (with_reducible rfl))
        try simp only [Act.put, List.getElem_toArray, List.getElem_cons_succ, List.getElem_cons_zero, List.setIfInBounds_toArray, List.set_cons_zero, List.set_cons_succ]
        refine wpAnyH_ready (rs := [6]) (by kernel_rfl) (by simp) ?_
        refine AllReadyH.cons rfl (fun K hK => ?_) AllReadyH.nil
        go_simp
        (go_at_call 82; refine (markText_any _ (by omega) _).mono ?_; rintro e w1 ⟨⟨z', rfl, hz'⟩, hb1⟩; obtain rfl : y2 = z' := HY2.out.trans ((congrArg markB (by omega)).trans hz'.symm); clear hz')
        try (go_wp2_with fail)
        refine hK.out _ _ ?_ (fun hHeld => ?_)
        · (first | exact HS.out _ BW.out.drew_ | exact HS.out _ (BW.out.drew_.trans_ hb1))
        clear hK K
        try simp only [Act.put, List.getElem_toArray, List.getElem_cons_succ, List.getElem_cons_zero, List.setIfInBounds_toArray, List.set_cons_zero, List.set_cons_succ]
        refine wpAnyH_take (i := 7) (v := ?_) rfl (by kernel_rfl) (by kernel_rfl) (by kernel_rfl) (fun _ _ _ h => h) (Or.inl ⟨by kernel_rfl, ?_⟩) (by assumption) ?_
        rotate_left
        · (intro wx hSw; (try dsimp only at hSw); go_simp; try (with_reducible rfl))
        try simp only [Act.put, List.getElem_toArray, List.getElem_cons_succ, List.getElem_cons_zero, List.setIfInBounds_toArray, List.set_cons_zero, List.set_cons_succ]
        refine wpAnyH_done (by kernel_rfl) ?_ _
        obtain ⟨hbx2, -⟩ := hHeld
        clear BW 
        have BW := Lib.hid hbx2
        clear hHeld
        go_wp2_with fail
        refine wp_region_held_drew (S := fun wx => Bl w wx ∧ wx.cell? ⟨g, off + j * 4, none⟩ = some (.int .i64 (k + 4 * (j : Int))) ∧ wx.cell? ⟨g, off + j * 4 + 1, none⟩ = some (.string y1) ∧ wx.cell? ⟨g, off + j * 4 + 2, none⟩ = some (.string y2) ∧ wx.cell? ⟨g, off + j * 4 + 3, none⟩ = some (.string y3)) (by kernel_rfl) ?_ (fun hHeld => ?_)
        · (first | exact HS.out _ BW.out.drew_ | exact HS.out _ (BW.out.drew_.trans_ hb1))
        refine wpAnyH_take (i := 0) (v := ?_) rfl (by kernel_rfl) (by kernel_rfl) (by kernel_rfl) (fun _ _ _ h => h) (Or.inl ⟨by kernel_rfl, ?_⟩) (by assumption) ?_
        rotate_left
        · (intro wx hSw; (try dsimp only at hSw); go_simp; try (with_reducible rfl))
        try simp only [Act.put, List.getElem_toArray, List.getElem_cons_succ, List.getElem_cons_zero, List.setIfInBounds_toArray, List.set_cons_zero, List.set_cons_succ]
        refine wpAnyH_take (i := 1) (v := ?_) rfl (by kernel_rfl) (by kernel_rfl) (by kernel_rfl) (fun _ _ _ h => h) (Or.inl ⟨by kernel_rfl, ?_⟩) (by assumption) ?_
        rotate_left
        · (intro wx hSw; (try dsimp only at hSw); go_simp; try (with_reducible rfl))
        try simp only [Act.put, List.getElem_toArray, List.getElem_cons_succ, List.getElem_cons_zero, List.setIfInBounds_toArray, List.set_cons_zero, List.set_cons_succ]
        refine wpAnyH_take (i := 2) (v := ?_) rfl (by kernel_rfl) (by kernel_rfl) (by kernel_rfl) (fun _ _ _ h => h) (Or.inl ⟨by kernel_rfl, ?_⟩) (by assumption) ?_
        rotate_left
        · (intro wx hSw; (try dsimp only at hSw); go_simp; try (with_reducible rfl))
        try simp only [Act.put, List.getElem_toArray, List.getElem_cons_succ, List.getElem_cons_zero, List.setIfInBounds_toArray, List.set_cons_zero, List.set_cons_succ]
        refine wpAnyH_take (i := 3) (v := ?_) rfl (by kernel_rfl) (by kernel_rfl) (by kernel_rfl) (fun _ _ _ h => h) (Or.inl ⟨by kernel_rfl, ?_⟩) (by assumption) ?_
        rotate_left
        · (intro wx hSw; (try dsimp only at hSw); go_simp; try (with_reducible rfl))
        try simp only [Act.put, List.getElem_toArray, List.getElem_cons_succ, List.getElem_cons_zero, List.setIfInBounds_toArray, List.set_cons_zero, List.set_cons_succ]
        refine wpAnyH_take (i := 4) (v := ?_) rfl (by kernel_rfl) (by kernel_rfl) (by kernel_rfl) (fun _ _ _ h => h) (Or.inl ⟨by kernel_rfl, ?_⟩) (by assumption) ?_
        rotate_left
        · (intro wx hSw; (try dsimp only at hSw); go_simp; try (with_reducible rfl))
        try simp only [Act.put, List.getElem_toArray, List.getElem_cons_succ, List.getElem_cons_zero, List.setIfInBounds_toArray, List.set_cons_zero, List.set_cons_succ]
        refine wpAnyH_take (i := 5) (v := ?_) rfl (by kernel_rfl) (by kernel_rfl) (by kernel_rfl) (fun _ _ _ h => h) (Or.inl ⟨by kernel_rfl, ?_⟩) (by assumption) ?_
        rotate_left
        · (intro wx hSw; (try dsimp only at hSw); go_simp; try (with_reducible rfl))
        try simp only [Act.put, List.getElem_toArray, List.getElem_cons_succ, List.getElem_cons_zero, List.setIfInBounds_toArray, List.set_cons_zero, List.set_cons_succ]
        refine wpAnyH_ready (rs := [6]) (by kernel_rfl) (by simp) ?_
        refine AllReadyH.cons rfl (fun K hK => ?_) AllReadyH.nil
        go_simp
        (go_at_call 82; refine (markText_any _ (by omega) _).mono ?_; rintro e w1 ⟨⟨z', rfl, hz'⟩, hb1⟩; obtain rfl : y3 = z' := HY3.out.trans ((congrArg markB (by omega)).trans hz'.symm); clear hz')
        try (go_wp2_with fail)
        refine hK.out _ _ ?_ (fun hHeld => ?_)
        · (first | exact HS.out _ BW.out.drew_ | exact HS.out _ (BW.out.drew_.trans_ hb1))
        clear hK K
        try simp only [Act.put, List.getElem_toArray, List.getElem_cons_succ, List.getElem_cons_zero, List.setIfInBounds_toArray, List.set_cons_zero, List.set_cons_succ]
        refine wpAnyH_take (i := 7) (v := ?_) rfl (by kernel_rfl) (by kernel_rfl) (by kernel_rfl) (fun _ _ _ h => h) (Or.inl ⟨by kernel_rfl, ?_⟩) (by assumption) ?_
        rotate_left
        · (intro wx hSw; (try dsimp only at hSw); go_simp; try (with_reducible rfl))
        try simp only [Act.put, List.getElem_toArray, List.getElem_cons_succ, List.getElem_cons_zero, List.setIfInBounds_toArray, List.set_cons_zero, List.set_cons_succ]
        refine wpAnyH_done (by kernel_rfl) ?_ _
        obtain ⟨hbx3, -⟩ := hHeld
        clear BW 
        have BW := Lib.hid hbx3
        clear hHeld
        go_wp2
        go_roundw
        case rel => exact ⟨j + 1, by omega, by go_num, by go_num, BW.out⟩
        case measure => simp [intOf]; omega
      · go_wp2
        go_ret
        have e : j = n := by omega
        subst e
        exact ⟨rfl, hbl⟩

end Go.Proofs.Ytgfmgmcpfefmkaa

set_option linter.unusedSimpArgs false
set_option linter.unusedVariables false
namespace Go.Proofs.Ytgfmgmcpfefmkaa
open Go.RowKit

/-- The slices of a disk read as these lists. -/
structure DiskAt (w : World) (B : Nat) (A1 A2 A3 : Option Addr) (L1 L2 : List Fl) (O : List Dp) : Prop where
  f1 : FilesAt w B A1 L1
  f2 : FilesAt w B A2 L2
  f3 : OpsAt w B A3 O
theorem DiskAt.bl {w w' : World} {A1 A2 A3 : Option Addr} {L1 L2 : List Fl} {O : List Dp} (h : DiskAt w w.heap.size A1 A2 A3 L1 L2 O) (hb : Bl w w') : DiskAt w' w'.heap.size A1 A2 A3 L1 L2 O := ⟨h.f1.bl hb, h.f2.bl hb, h.f3.bl hb⟩
theorem DiskAt.more {w : World} {B B' : Nat} {A1 A2 A3 : Option Addr} {L1 L2 : List Fl} {O : List Dp} (h : DiskAt w B A1 A2 A3 L1 L2 O) (hB : B ≤ B') : DiskAt w B' A1 A2 A3 L1 L2 O := ⟨h.f1.more hB, h.f2.more hB, h.f3.more hB⟩
theorem DiskRows.at_ {w : World} {B g1 g2 g3 n1 n2 n3 : Nat} {L1 L2 : List Fl} {O : List Dp} (h : DiskRows w B g1 g2 g3 n1 n2 n3 L1 L2 O) : DiskAt w w.heap.size (some ⟨g1, 0, none⟩) (some ⟨g2, 0, none⟩) (some ⟨g3, 0, none⟩) L1 L2 O := ⟨h.r1.at_, h.r2.at_, h.r3.at_⟩
theorem DiskRows.bl {w w' : World} {B g1 g2 g3 n1 n2 n3 : Nat} {L1 L2 : List Fl} {O : List Dp} (h : DiskRows w B g1 g2 g3 n1 n2 n3 L1 L2 O) (hb : Bl w w') : DiskRows w' B g1 g2 g3 n1 n2 n3 L1 L2 O := ⟨h.r1.bl hb, h.r2.bl hb, h.r3.bl hb, h.d12, h.d13, h.d23⟩

set_option maxRecDepth 100000 in
set_option maxHeartbeats 1000000 in
theorem eqDisk_yes (A1 A2 A3 B1 B2 B3 : Option Addr) (n1 n2 n3 c1 c2 c3 d1 d2 d3 : Nat) (L1 L2 : List Fl) (O : List Dp) (hn1 : n1 = L1.length) (hn2 : n2 = L2.length) (hn3 : n3 = O.length) (w : World)
    (hm1 : n1 ≤ 1048576) (hm2 : n2 ≤ 1048576) (hm3 : n3 ≤ 1048576) (HA : DiskAt w w.heap.size A1 A2 A3 L1 L2 O) (HB : DiskAt w w.heap.size B1 B2 B3 L1 L2 O) :
    Calls Try.prog 13 #[.agg #[.slice A1 n1 c1, .slice A2 n2 c2, .slice A3 n3 c3], .agg #[.slice B1 n1 d1, .slice B2 n2 d2, .slice B3 n3 d3]] w fun e w' => e = .returned (.bool true) ∧ Bl w w' := by
  have KA := Lib.hid HA
  have KB := Lib.hid HB
  have N1 := Lib.hid hn1
  have N2 := Lib.hid hn2
  have N3 := Lib.hid hn3
  clear HA HB hn1 hn2 hn3
  go_enter Try.func13, Try.ntmps13
  go_wp2_with fail
  refine (eqFileS_yes _ _ c1 d1 L1 n1 N1.out _ (by omega) (KA.out.f1.bl (by repeat' (first | exact Bl.refl _ | with_reducible assumption | with_reducible refine Bl.drew_ ?_ | with_reducible refine Bl.drewN_ ?_ _ | with_reducible refine Bl.alloc_ ?_ _ | with_reducible refine Bl.trans_ ?_ (by assumption) | with_reducible refine Bl.trans_ ?_ (And.left (by assumption))))) (KB.out.f1.bl (by repeat' (first | exact Bl.refl _ | with_reducible assumption | with_reducible refine Bl.drew_ ?_ | with_reducible refine Bl.drewN_ ?_ _ | with_reducible refine Bl.alloc_ ?_ _ | with_reducible refine Bl.trans_ ?_ (by assumption) | with_reducible refine Bl.trans_ ?_ (And.left (by assumption)))))).mono ?_
  rintro e w1 ⟨rfl, hb1⟩
  have B1 := Lib.hid (show Bl w w1 from ((Bl.refl w).alloc_ _).alloc_ _ |>.trans_ hb1)
  obtain ⟨hc1, hf1⟩ := bcell hb1
  go_wp2_with fail
  refine (eqFileS_yes _ _ c2 d2 L2 n2 N2.out _ (by omega) (KA.out.f2.bl B1.out) (KB.out.f2.bl B1.out)).mono ?_
  rintro e w2 ⟨rfl, hb2⟩
  have B2 := Lib.hid (B1.out.trans_ hb2)
  have s1 := hb1.size
  simp only [World.size_alloc] at s1
  obtain ⟨hc2, hf2⟩ := bcell hb2
  have i1 : w.heap.size < w1.heap.size := by omega
  have i2 : w.heap.size + 1 < w1.heap.size := by omega
  go_wp2_with fail
  refine (eqDOpS_yes _ _ c3 d3 O n3 N3.out _ (by omega) (KA.out.f3.bl B2.out) (KB.out.f3.bl B2.out)).mono ?_
  rintro e w3 ⟨rfl, hb3⟩
  have B3 := Lib.hid (B2.out.trans_ hb3)
  clear hb1 hb2 hb3 hc1 hc2 hf1 hf2
  go_wp2
  go_ret
  exact ⟨rfl, B3.out⟩

/-- What is written when a disk is marked. -/
def DkS (A1 A2 A3 : Option Addr) (n1 n2 n3 : Nat) (b : Nat) : Prop := rowOf A1 n1 = some b ∨ rowOf A2 n2 = some b ∨ rowOf A3 n3 = some b
/-- The slices of a disk may be written, each by itself. -/
structure DiskW (w : World) (A1 A2 A3 : Option Addr) (n1 n2 n3 : Nat) : Prop where
  w1 : RowsW 86 2 w A1 n1
  w2 : RowsW 86 2 w A2 n2
  w3 : RowsW 51 4 w A3 n3
  d12 : ∀ g, rowOf A1 n1 = some g → rowOf A2 n2 ≠ some g
  d13 : ∀ g, rowOf A1 n1 = some g → rowOf A3 n3 ≠ some g
  d23 : ∀ g, rowOf A2 n2 = some g → rowOf A3 n3 ≠ some g
theorem DiskW.bl {w w' : World} {A1 A2 A3 : Option Addr} {n1 n2 n3 : Nat} (h : DiskW w A1 A2 A3 n1 n2 n3) (hb : Bl w w') : DiskW w' A1 A2 A3 n1 n2 n3 := ⟨RowsW.bl h.w1 hb, RowsW.bl h.w2 hb, RowsW.bl h.w3 hb, h.d12, h.d13, h.d23⟩
/-- The slices of a disk bear the marks from k on. -/
structure DiskMk (w : World) (A1 A2 A3 : Option Addr) (n1 n2 n3 : Nat) (k : Int) : Prop where
  m1 : MarkF w A1 n1 k
  m2 : MarkF w A2 n2 (k + 2 * n1)
  m3 : MarkO w A3 n3 (k + 2 * n1 + 2 * n2)
theorem DiskMk.bl {w w' : World} {A1 A2 A3 : Option Addr} {n1 n2 n3 : Nat} {k : Int} (h : DiskMk w A1 A2 A3 n1 n2 n3 k) (hb : Bl w w') : DiskMk w' A1 A2 A3 n1 n2 n3 k := ⟨h.m1.bl hb, h.m2.bl hb, h.m3.bl hb⟩
theorem rowsW_grown {t : TypeId} {s : Nat} {w w' : World} {A : Option Addr} {n : Nat} {row : Option Nat} (h : RowsW t s w A n) (hg : w.grownBy w' row) (hne : ∀ g, rowOf A n = some g → some g ≠ row) : RowsW t s w' A n := fun h0 =>
  RowsW.grown_ h hg (fun g hb => hne g (by unfold rowOf; rw [if_neg (by omega)]; exact hb)) h0
theorem markF_grown {w w' : World} {A : Option Addr} {n : Nat} {k : Int} {row : Option Nat} (h : MarkF w A n k) (hg : w.grownBy w' row) (hne : ∀ g, rowOf A n = some g → some g ≠ row) : MarkF w' A n k := fun h0 =>
  MarkF.grown_ h hg (fun g hb => hne g (by unfold rowOf; rw [if_neg (by omega)]; exact hb)) h0

set_option maxRecDepth 100000 in
set_option maxHeartbeats 1000000 in
theorem markDisk_any (A1 A2 A3 : Option Addr) (n1 n2 n3 c1 c2 c3 : Nat) (k : Int) (w : World) (hm1 : n1 ≤ 1048576) (hm2 : n2 ≤ 1048576) (hm3 : n3 ≤ 1048576) (hk0 : 0 ≤ k) (hk1 : k ≤ 1048576) (HW : DiskW w A1 A2 A3 n1 n2 n3) :
    Calls Try.prog 15 #[.agg #[.slice A1 n1 c1, .slice A2 n2 c2, .slice A3 n3 c3], .int .i64 k] w fun e w' =>
      e = .returned (.int .i64 (k + 2 * n1 + 2 * n2 + 4 * n3)) ∧ DiskMk w' A1 A2 A3 n1 n2 n3 k ∧ Turn (DkS A1 A2 A3 n1 n2 n3) w w' := by
  have KW := Lib.hid HW
  have lt1 : ∀ g, rowOf A1 n1 = some g → g < w.heap.size := fun g hg => by
    obtain ⟨h0, hb⟩ := rowOf_pos hg
    obtain ⟨g', off, m, f, rfl, _, hr⟩ := HW.w1 h0
    injection hb with hb
    rw [← hb]; exact hr.lt
  have lt2 : ∀ g, rowOf A2 n2 = some g → g < w.heap.size := fun g hg => by
    obtain ⟨h0, hb⟩ := rowOf_pos hg
    obtain ⟨g', off, m, f, rfl, _, hr⟩ := HW.w2 h0
    injection hb with hb
    rw [← hb]; exact hr.lt
  have lt3 : ∀ g, rowOf A3 n3 = some g → g < w.heap.size := fun g hg => by
    obtain ⟨h0, hb⟩ := rowOf_pos hg
    obtain ⟨g', off, m, f, rfl, _, hr⟩ := HW.w3 h0
    injection hb with hb
    rw [← hb]; exact hr.lt
  have T1 := Lib.hid lt1
  have T2 := Lib.hid lt2
  have T3 := Lib.hid lt3
  clear HW lt1 lt2 lt3
  go_enter Try.func15, Try.ntmps15
  go_wp2_with fail
  refine (markFileS_any A1 n1 c1 k _ hm1 hk0 (by omega) (RowsW.bl KW.out.w1 (by repeat' (first | exact Bl.refl _ | with_reducible assumption | with_reducible refine Bl.drew_ ?_ | with_reducible refine Bl.drewN_ ?_ _ | with_reducible refine Bl.alloc_ ?_ _ | with_reducible refine Bl.trans_ ?_ (by assumption) | with_reducible refine Bl.trans_ ?_ (And.left (by assumption)))))).mono ?_
  rintro e w1 ⟨rfl, hmk1, hgr1, -⟩
  have s1 := hgr1.size
  simp only [World.size_alloc] at s1
  have x0 : w1.cell? ⟨w.heap.size, 0, none⟩ = some (.slice A1 n1 c1) ∧ w1.cell? ⟨w.heap.size, 1, none⟩ = some (.slice A2 n2 c2) ∧ w1.cell? ⟨w.heap.size, 2, none⟩ = some (.slice A3 n3 c3) := by
    have hne : some w.heap.size ≠ rowOf A1 n1 := fun e => by have := T1.out _ e.symm; omega
    exact ⟨hgr1.cell (by simp [go_sem]) hne, hgr1.cell (by simp [go_sem]) hne, hgr1.cell (by simp [go_sem]) hne⟩
  have M1 := Lib.hid hmk1
  have G1 := Lib.hid (grown_of_bl ((Bl.refl w).alloc_ _) hgr1)
  have X0 := Lib.hid x0
  obtain ⟨y0, y1, y2⟩ := x0
  clear hmk1 hgr1
  go_wp2_with fail
  refine (markFileS_any A2 n2 c2 (k + 2 * (n1 : Int)) _ hm2 (by omega) (by omega) (rowsW_grown KW.out.w2 G1.out (fun g hg e => KW.out.d12 g e.symm hg))).mono ?_
  rintro e w2 ⟨rfl, hmk2, hgr2, -⟩
  have s2 := hgr2.size
  have x2 : w2.cell? ⟨w.heap.size, 0, none⟩ = some (.slice A1 n1 c1) ∧ w2.cell? ⟨w.heap.size, 1, none⟩ = some (.slice A2 n2 c2) ∧ w2.cell? ⟨w.heap.size, 2, none⟩ = some (.slice A3 n3 c3) := by
    have hne : some w.heap.size ≠ rowOf A2 n2 := fun e => by have := T2.out _ e.symm; omega
    exact ⟨hgr2.cell X0.out.1 hne, hgr2.cell X0.out.2.1 hne, hgr2.cell X0.out.2.2 hne⟩
  have M2 := Lib.hid hmk2
  have M1b := Lib.hid (markF_grown M1.out hgr2 (fun g hg e => KW.out.d12 g hg e.symm))
  have G2 := Lib.hid hgr2
  have W3 := Lib.hid (rowsW_grown (rowsW_grown KW.out.w3 G1.out (fun g hg e => KW.out.d13 g e.symm hg)) hgr2 (fun g hg e => KW.out.d23 g e.symm hg))
  clear y0 y1 y2 hmk2 hgr2 M1
  obtain ⟨y0, y1, y2⟩ := x2
  go_wp2_with fail
  refine (markDOpS_any A3 n3 c3 (k + 2 * (n1 : Int) + 2 * (n2 : Int)) _ hm3 (by omega) (by omega) W3.out).mono ?_
  rintro e w3 ⟨rfl, hmk3, hgr3, -⟩
  have M3 := Lib.hid hmk3
  have M1c := Lib.hid (markF_grown M1b.out hgr3 (fun g hg e => KW.out.d13 g hg e.symm))
  have M2c := Lib.hid (markF_grown M2.out hgr3 (fun g hg e => KW.out.d23 g hg e.symm))
  have TT := Lib.hid (show Turn (DkS A1 A2 A3 n1 n2 n3) w w3 from
    (((Turn.of_grown (S := DkS A1 A2 A3 n1 n2 n3) G1.out (fun g h => .inl h)).trans (Turn.of_grown (S := DkS A1 A2 A3 n1 n2 n3) G2.out (fun g h => .inr (.inl h))) (fun i _ h => h))).trans (Turn.of_grown (S := DkS A1 A2 A3 n1 n2 n3) hgr3 (fun g h => .inr (.inr h))) (fun i _ h => h))
  clear hmk3 hgr3 M1b M2
  go_wp2
  go_ret
  exact ⟨ret_int rfl, ⟨M1c.out, M2c.out, M3.out⟩, TT.out⟩

set_option maxRecDepth 100000 in
set_option maxHeartbeats 1000000 in
theorem heldDisk_any (A1 A2 A3 : Option Addr) (n1 n2 n3 c1 c2 c3 : Nat) (k : Int) (w : World) (hm1 : n1 ≤ 1048576) (hm2 : n2 ≤ 1048576) (hm3 : n3 ≤ 1048576) (hk0 : 0 ≤ k) (hk1 : k ≤ 1048576) (HM : DiskMk w A1 A2 A3 n1 n2 n3 k) :
    Calls Try.prog 17 #[.agg #[.slice A1 n1 c1, .slice A2 n2 c2, .slice A3 n3 c3], .int .i64 k] w fun e w' => e = .returned (.int .i64 (k + 2 * n1 + 2 * n2 + 4 * n3)) ∧ Bl w w' := by
  have KM := Lib.hid HM
  clear HM
  have p1 : (0 : Int) ≤ k + 2 * (n1 : Int) := by omega
  have p2 : (0 : Int) ≤ k + 2 * (n1 : Int) + 2 * (n2 : Int) := by omega
  have p3 : (0 : Int) ≤ k + 2 * (n1 : Int) + 2 * (n2 : Int) + 4 * (n3 : Int) := by omega
  go_enter Try.func17, Try.ntmps17
  go_wp2_with fail
  refine (heldFileS_any A1 n1 c1 k _ hm1 hk0 (by omega) (KM.out.m1.bl (by repeat' (first | exact Bl.refl _ | with_reducible assumption | with_reducible refine Bl.drew_ ?_ | with_reducible refine Bl.drewN_ ?_ _ | with_reducible refine Bl.alloc_ ?_ _ | with_reducible refine Bl.trans_ ?_ (by assumption) | with_reducible refine Bl.trans_ ?_ (And.left (by assumption)))))).mono ?_
  rintro e w1 ⟨rfl, hb1⟩
  obtain ⟨q0, q1, q2⟩ := box3 hb1
  have X1 := Lib.hid hb1
  have B1 := Lib.hid ((Bl.alloc_ (Bl.refl w) _).trans_ hb1)
  clear hb1
  go_wp2_with fail
  refine (heldFileS_any A2 n2 c2 (k + 2 * (n1 : Int)) _ hm2 (by omega) (by omega) (KM.out.m2.bl B1.out)).mono ?_
  rintro e w2 ⟨rfl, hb2⟩
  clear q0 q1 q2
  obtain ⟨q0, q1, q2⟩ := box3 (X1.out.trans_ hb2)
  have B2 := Lib.hid (B1.out.trans_ hb2)
  clear hb2
  go_wp2_with fail
  refine (heldDOpS_any A3 n3 c3 (k + 2 * (n1 : Int) + 2 * (n2 : Int)) _ hm3 (by omega) (by omega) (KM.out.m3.bl B2.out)).mono ?_
  rintro e w3 ⟨rfl, hb3⟩
  have B3 := Lib.hid (B2.out.trans_ hb3)
  clear hb3
  go_wp2
  go_ret
  exact ⟨ret_int rfl, B3.out⟩

end Go.Proofs.Ytgfmgmcpfefmkaa

set_option linter.unusedSimpArgs false
set_option linter.unusedVariables false
namespace Go.Proofs.Ytgfmgmcpfefmkaa
open Go.RowKit

theorem eqIn_file (d : Nat) (a b c e : ByteArray) (w : World) : (Op.equalIn (d + 2) 86 (.agg #[.string a, .string b]) (.agg #[.string c, .string e])).run Try.prog w = .ok (sameB a c && sameB b e) w := by
  have ht : Try.prog.underlying 86 = some (.struct (Try.prog.fieldsOf 86)) := by kernel_rfl
  have hs : ∀ n x y (w : World), (Op.equalIn (n + 1) 9 (.string x) (.string y)).run Try.prog w = .ok (x.toList == y.toList) w := fun n x y w => run_equalIn_string w n _ x y Try.underlying9
  rw [run_equalIn_agg w (d + 1) _ _ _ ht (by kernel_rfl)]
  have e2 := Try.underlying86
  rw [ht] at e2
  simp only [Option.some.injEq, TypeDesc.struct.injEq] at e2
  rw [e2]
  have hc : ∀ t, t = 9 → Try.prog.cellsOf t = 1 := fun t h => by subst h; kernel_rfl
  cases h1 : (a.toList == c.toList) <;> cases h2 : (b.toList == e.toList) <;> simp [Op.eqFields, part, hs, sameB, h1, h2, go_sem]

end Go.Proofs.Ytgfmgmcpfefmkaa
