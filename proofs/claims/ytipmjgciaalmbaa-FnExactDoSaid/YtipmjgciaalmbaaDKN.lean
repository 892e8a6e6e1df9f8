/-
  What is proved here: contracts of the laws' small functions on files and ops: sizes, copies. No conditions beyond those that each theorem states.
-/
import Derived.Test.YtipmjgciaalmbaaDKM
set_option linter.unusedSimpArgs false
set_option linter.unusedVariables false
namespace Go.Proofs.Ytipmjgciaalmbaa
open Go.RowKit


set_option maxHeartbeats 1000000 in
theorem szFileS_any (A : Option Addr) (n c : Nat) (L : List Fl) (hn : n = L.length) (l : Int) (w : World) (hm : n ≤ 9223372036854775807) (hz : ∀ f ∈ L, f.1.size ≤ 9223372036854775807 ∧ f.2.size ≤ 9223372036854775807) (hl0 : 0 ≤ l) (hl1 : l ≤ 1048576) (H1 : FilesAt w w.heap.size A L) :
    Calls Try.prog 45 #[.slice A n c, .int .i64 l] w fun e w' => e = .returned (.int .i64 (leftI l (n + szL szFl L))) ∧ Bl w w' := by
  have K1 := Lib.hid H1
  have HN := Lib.hid hn
  have HZ := Lib.hid hz
  clear H1 hn hz
  by_cases h1 : l - n < 0
  · go_enter Try.func45, Try.ntmps45
    go_wp2
    go_ret
    exact ⟨ret_int (by rw [leftI_neg (by omega)]), Bl.refl w⟩
  · have h1' : ¬ l - (n : Int) < 0 := h1
    go_enter Try.func45, Try.ntmps45
    go_wp2
    go_loopw [1, 5] (fun q i wr => ∃ k : Nat, k ≤ n ∧ i = .int .i64 k ∧ q = .int .i64 (l - n - (szL szFl (L.take k) : Nat)) ∧ 0 ≤ l - n - (szL szFl (L.take k) : Nat) ∧ Bl w wr) (fun _ i _ => n - (intOf i).toNat)
    case atStart => exact ⟨0, by omega, rfl, by simp [szL], by simp [szL]; omega, Bl.refl w⟩
    case round =>
      obtain ⟨k, hk, rfl, rfl, h0, hbl⟩ := hrel
      have BW := Lib.hid hbl
      by_cases hlt : k < n
      · have hkl : k < L.length := by have := HN.out; omega
        obtain ⟨g1, o1, rfl, hg1, hc1⟩ := K1.out.cell (by omega)
        obtain ⟨p1, p2⟩ := hc1 k hkl
        rw [← (bcell hbl).1 _ _ hg1] at p1 p2
        clear hc1
        have hzk := HZ.out _ (List.getElem_mem hkl)
        have hst := szL_take szFl L k hkl
        have hle := szL_le szFl L (k + 1)
        obtain ⟨f, hf⟩ : ∃ f, f = L[k] := ⟨_, rfl⟩
        rw [← hf] at p1 p2 hzk hst
        obtain ⟨z0, z1⟩ := hzk
        obtain ⟨t, ht⟩ : ∃ t, t = szL szFl (L.take k) := ⟨_, rfl⟩
        rw [← ht] at h0 hst
        try rw [← ht]
        have HT := Lib.hid ht
        rw [hst] at hle
        have HST := Lib.hid hst
        have i0 : (0 : Int) ≤ (k : Int) := by omega
        have i1 : (k : Int) < (n : Int) := by omega
        clear hf ht hst hbl
        by_cases hneg : l - n - (t : Int) - ((szFl f : Nat) : Int) < 0
        · have hv := leftI_neg (l := l - n - (t : Int)) (n := szFl f) hneg
          have hv2 := leftI_neg (l := l) (n := n + szL szFl L) (by omega)
          go_wp2_with fail
          refine (szFile_any f (l - n - (t : Int)) _ z0 z1 (by omega) (by omega)).mono ?_
          rintro e w1 ⟨rfl, hb1⟩
          rw [hv]
          go_wp2
          go_ret
          exact ⟨ret_int hv2.symm, BW.out.trans_ hb1⟩
        · have hv := leftI_pos (l := l - n - (t : Int)) (n := szFl f) hneg
          go_wp2_with fail
          refine (szFile_any f (l - n - (t : Int)) _ z0 z1 (by omega) (by omega)).mono ?_
          rintro e w1 ⟨rfl, hb1⟩
          rw [hv]
          go_wp2
          go_roundw
          case rel => exact ⟨k + 1, by omega, by go_num, by rw [HST.out]; congr 1; omega, by rw [HST.out]; omega, BW.out.trans_ hb1⟩
          case measure => simp [intOf]; omega
      · obtain rfl : k = n := by omega
        have e : L.take k = L := List.take_of_length_le (by have := HN.out; omega)
        rw [e] at h0
        try rw [e]
        go_wp2
        go_ret
        exact ⟨ret_int (by rw [leftI_pos (by omega)]; omega), hbl⟩

set_option maxHeartbeats 400000 in
theorem toFile_any (f : Fl) (w : World) :
    Calls Try.prog 96 #[.agg #[.string f.1, .string f.2]] w fun e w' => e = .returned (.agg #[.string f.1, .string f.2]) ∧ Bl w w' := by
  obtain ⟨a, b⟩ := f
  go_enter Try.func96, Try.ntmps96
  go_wp2
  exact bodyPost_ret (v := .agg #[.string a, .string b]) (by simp [results, Try.results96, go_sem]) rfl ⟨rfl, (by repeat' (first | exact Bl.refl _ | with_reducible assumption | with_reducible refine Bl.drew_ ?_ | with_reducible refine Bl.drewN_ ?_ _ | with_reducible refine Bl.alloc_ ?_ _ | with_reducible refine Bl.trans_ ?_ (by assumption) | with_reducible refine Bl.trans_ ?_ (And.left (by assumption))))⟩

def mkFile (n : Nat) : Array Value := madeCells (Value.agg #[.string ⟨#[]⟩, .string ⟨#[]⟩]).cells (n * 2)
theorem size_mkFile (n : Nat) : (mkFile n).size = n * 2 := size_madeCells _ _
theorem make_File (n : Nat) (hn : n ≤ 1048576) (w : World) : (Instr.makeSlice 28 (.int .i64 (n : Int)) (.int .i64 (n : Int))).run Try.prog w = .ok (.slice (some ⟨w.heap.size, 0, none⟩) n n) (w.alloc (.cells (mkFile n) 89)) := by
  obtain ⟨i0, hi, hz0, hz1, hz2⟩ := info_parts infoFile
  have h := run_make_rowN (P := Try.prog) 28 89 i0 _ Try.underlying28 hi hz0 .i64 .i64 n n (Nat.le_refl _) (by rw [hz2]; omega) (by omega) w
  rw [hz1] at h
  exact h

theorem filledFile_step {w : World} {g n k : Nat} {L : List Fl} (h : FilledE 89 encF 2 w g n k L) (hk : k < n) (hl : k < L.length) {f : Fl} (hf : f = L[k]) :
    FilledE 89 encF 2 ((w.setCell ⟨g, k * 2, none⟩ (.string f.1)).setCell ⟨g, k * 2 + 1, none⟩ (.string f.2)) g n (k + 1) L := by
  obtain ⟨cur, hb, hs, hc⟩ := h
  refine ⟨((cur.setIfInBounds (k * 2) (.string f.1)).setIfInBounds (k * 2 + 1) (.string f.2)), (heap_setCell_same _ g _ _ _ _ (heap_setCell_same _ g _ _ _ _ hb)), by simpa using hs, fun j hj hj' r hr => ?_⟩
  rcases Nat.lt_or_ge j k with h | h
  · have hne : ∀ i, i < 2 → k * 2 + i ≠ j * 2 + r := fun i hi => by omega
    rw [Array.getElem?_setIfInBounds_ne (by omega)]; rw [Array.getElem?_setIfInBounds_ne (by omega)]
    exact hc j h hj' r hr
  · obtain rfl : j = k := by omega
    rw [← hf]
    have h2 : r = 0 ∨ r = 1 := by omega
    rcases h2 with rfl | rfl
    · simp only [Nat.add_zero]; rw [Array.getElem?_setIfInBounds_ne (by omega), Array.getElem?_setIfInBounds_self_of_lt (by first | omega | (simp only [Array.size_setIfInBounds]; omega))]; rfl
    · rw [Array.getElem?_setIfInBounds_self_of_lt (by first | omega | (simp only [Array.size_setIfInBounds]; omega))]; rfl

/-- What a copy leaves: a row of its own. -/
def FileMade (n : Nat) (L : List Fl) (w : World) (e : Ending) (w' : World) : Prop :=
  ∃ g, e = .returned (.slice (some ⟨g, 0, none⟩) n n) ∧ OwnF w' w.heap.size (.slice (some ⟨g, 0, none⟩) n n) L ∧ Bl w w' ∧ w.heap.size < w'.heap.size

set_option maxHeartbeats 1000000 in
theorem toFileS_any (A : Option Addr) (n c : Nat) (L : List Fl) (hn : n = L.length) (w : World) (hm : n ≤ 1048576) (H1 : FilesAt w w.heap.size A L) :
    Calls Try.prog 51 #[.slice A n c] w (FileMade n L w) := by
  have K1 := Lib.hid H1
  have HN := Lib.hid hn
  clear H1 hn
  have hmk := make_File n hm
  go_enter Try.func51, Try.ntmps51
  go_wp2
  clear hmk
  go_loopw [4] (fun i wr => ∃ k : Nat, k ≤ n ∧ i = .int .i64 k ∧ Bl w wr ∧ FilledE 89 encF 2 wr w.heap.size n k L) (fun i _ => n - (intOf i).toNat)
  case atStart => exact ⟨0, by omega, rfl, (by repeat' (first | exact Bl.refl _ | with_reducible assumption | with_reducible refine Bl.drew_ ?_ | with_reducible refine Bl.drewN_ ?_ _ | with_reducible refine Bl.alloc_ ?_ _ | with_reducible refine Bl.trans_ ?_ (by assumption) | with_reducible refine Bl.trans_ ?_ (And.left (by assumption)))), mkFile n, heap_alloc_new _ _, size_mkFile n, fun j h => absurd h (by omega)⟩
  case round =>
    obtain ⟨k, hk, rfl, hbl, hF⟩ := hrel
    have F := Lib.hid hF
    clear hF
    by_cases hlt : k < n
    · have hkl : k < L.length := by have := HN.out; omega
      obtain ⟨g1, o1, rfl, hg1, hc1⟩ := K1.out.cell (by omega)
      obtain ⟨p1, p2⟩ := hc1 k hkl
      rw [← (bcell hbl).1 _ _ hg1] at p1 p2
      clear hc1
      obtain ⟨f, hf⟩ : ∃ f, f = L[k] := ⟨_, rfl⟩
      rw [← hf] at p1 p2
      have HF := Lib.hid hf
      clear hf
      go_wp2_with fail
      refine (toFile_any f _).mono ?_
      rintro e w1 ⟨rfl, hb⟩
      have F2 := Lib.hid (F.out.bl hb)
      obtain ⟨y0, -, z⟩ := F2.out.cells
      obtain ⟨v0, z0⟩ := z (k * 2) (by omega)
      have x0 := y0 (k * 2)
      obtain ⟨v1, z1⟩ := z (k * 2 + 1) (by omega)
      have x1 := y0 (k * 2 + 1)
      clear y0 z
      go_wp2
      go_roundw
      case rel => exact ⟨k + 1, by omega, by go_num, (Bl.set_ (Bl.set_ (hbl.trans_ hb) (Nat.le_refl _) _) (Nat.le_refl _) _), filledFile_step F2.out hlt hkl HF.out⟩
      case measure => simp [intOf]; omega
    · go_wp2
      go_ret
      have e : k = n := by omega
      subst e
      exact ⟨_, rfl, F.out.own encF_len HN.out hm (Nat.le_refl _), hbl, F.out.cells.2.1⟩

set_option maxHeartbeats 1000000 in
theorem szDOpS_any (A : Option Addr) (n c : Nat) (L : List Dp) (hn : n = L.length) (l : Int) (w : World) (hm : n ≤ 9223372036854775807) (hz : ∀ f ∈ L, f.name.size ≤ 9223372036854775807 ∧ f.to.size ≤ 9223372036854775807 ∧ f.data.size ≤ 9223372036854775807) (hl0 : 0 ≤ l) (hl1 : l ≤ 1048576) (H1 : OpsAt w w.heap.size A L) :
    Calls Try.prog 46 #[.slice A n c, .int .i64 l] w fun e w' => e = .returned (.int .i64 (leftI l (n + szL szDp L))) ∧ Bl w w' := by
  have K1 := Lib.hid H1
  have HN := Lib.hid hn
  have HZ := Lib.hid hz
  clear H1 hn hz
  by_cases h1 : l - n < 0
  · go_enter Try.func46, Try.ntmps46
    go_wp2
    go_ret
    exact ⟨ret_int (by rw [leftI_neg (by omega)]), Bl.refl w⟩
  · have h1' : ¬ l - (n : Int) < 0 := h1
    go_enter Try.func46, Try.ntmps46
    go_wp2
    go_loopw [1, 5] (fun q i wr => ∃ k : Nat, k ≤ n ∧ i = .int .i64 k ∧ q = .int .i64 (l - n - (szL szDp (L.take k) : Nat)) ∧ 0 ≤ l - n - (szL szDp (L.take k) : Nat) ∧ Bl w wr) (fun _ i _ => n - (intOf i).toNat)
    case atStart => exact ⟨0, by omega, rfl, by simp [szL], by simp [szL]; omega, Bl.refl w⟩
    case round =>
      obtain ⟨k, hk, rfl, rfl, h0, hbl⟩ := hrel
      have BW := Lib.hid hbl
      by_cases hlt : k < n
      · have hkl : k < L.length := by have := HN.out; omega
        obtain ⟨g1, o1, rfl, hg1, hc1⟩ := K1.out.cell (by omega)
        obtain ⟨p1, p2, p3, p4⟩ := hc1 k hkl
        rw [← (bcell hbl).1 _ _ hg1] at p1 p2 p3 p4
        clear hc1
        have hzk := HZ.out _ (List.getElem_mem hkl)
        have hst := szL_take szDp L k hkl
        have hle := szL_le szDp L (k + 1)
        obtain ⟨f, hf⟩ : ∃ f, f = L[k] := ⟨_, rfl⟩
        rw [← hf] at p1 p2 p3 p4 hzk hst
        obtain ⟨z0, z1, z2⟩ := hzk
        obtain ⟨t, ht⟩ : ∃ t, t = szL szDp (L.take k) := ⟨_, rfl⟩
        rw [← ht] at h0 hst
        try rw [← ht]
        have HT := Lib.hid ht
        rw [hst] at hle
        have HST := Lib.hid hst
        have i0 : (0 : Int) ≤ (k : Int) := by omega
        have i1 : (k : Int) < (n : Int) := by omega
        clear hf ht hst hbl
        by_cases hneg : l - n - (t : Int) - ((szDp f : Nat) : Int) < 0
        · have hv := leftI_neg (l := l - n - (t : Int)) (n := szDp f) hneg
          have hv2 := leftI_neg (l := l) (n := n + szL szDp L) (by omega)
          go_wp2_with fail
          refine (szDOp_any f (l - n - (t : Int)) _ z0 z1 z2 (by omega) (by omega)).mono ?_
          rintro e w1 ⟨rfl, hb1⟩
          rw [hv]
          go_wp2
          go_ret
          exact ⟨ret_int hv2.symm, BW.out.trans_ hb1⟩
        · have hv := leftI_pos (l := l - n - (t : Int)) (n := szDp f) hneg
          go_wp2_with fail
          refine (szDOp_any f (l - n - (t : Int)) _ z0 z1 z2 (by omega) (by omega)).mono ?_
          rintro e w1 ⟨rfl, hb1⟩
          rw [hv]
          go_wp2
          go_roundw
          case rel => exact ⟨k + 1, by omega, by go_num, by rw [HST.out]; congr 1; omega, by rw [HST.out]; omega, BW.out.trans_ hb1⟩
          case measure => simp [intOf]; omega
      · obtain rfl : k = n := by omega
        have e : L.take k = L := List.take_of_length_le (by have := HN.out; omega)
        rw [e] at h0
        try rw [e]
        go_wp2
        go_ret
        exact ⟨ret_int (by rw [leftI_pos (by omega)]; omega), hbl⟩

set_option maxHeartbeats 400000 in
theorem toDOp_any (f : Dp) (w : World) :
    Calls Try.prog 26 #[.agg #[.int .i64 f.kind, .string f.name, .string f.to, .string f.data]] w fun e w' => e = .returned (.agg #[.int .i64 f.kind, .string f.name, .string f.to, .string f.data]) ∧ Bl w w' := by
  obtain ⟨a, b, c, d⟩ := f
  go_enter Try.func26, Try.ntmps26
  go_wp2
  exact bodyPost_ret (v := .agg #[.int .i64 a, .string b, .string c, .string d]) (by simp [results, Try.results26, go_sem]) rfl ⟨rfl, (by repeat' (first | exact Bl.refl _ | with_reducible assumption | with_reducible refine Bl.drew_ ?_ | with_reducible refine Bl.drewN_ ?_ _ | with_reducible refine Bl.alloc_ ?_ _ | with_reducible refine Bl.trans_ ?_ (by assumption) | with_reducible refine Bl.trans_ ?_ (And.left (by assumption))))⟩

def mkDOp (n : Nat) : Array Value := madeCells (Value.agg #[.int .i64 0, .string ⟨#[]⟩, .string ⟨#[]⟩, .string ⟨#[]⟩]).cells (n * 4)
theorem size_mkDOp (n : Nat) : (mkDOp n).size = n * 4 := size_madeCells _ _
theorem make_DOp (n : Nat) (hn : n ≤ 1048576) (w : World) : (Instr.makeSlice 29 (.int .i64 (n : Int)) (.int .i64 (n : Int))).run Try.prog w = .ok (.slice (some ⟨w.heap.size, 0, none⟩) n n) (w.alloc (.cells (mkDOp n) 45)) := by
  obtain ⟨i0, hi, hz0, hz1, hz2⟩ := info_parts infoDOp
  have h := run_make_rowN (P := Try.prog) 29 45 i0 _ Try.underlying29 hi hz0 .i64 .i64 n n (Nat.le_refl _) (by rw [hz2]; omega) (by omega) w
  rw [hz1] at h
  exact h

theorem filledDOp_step {w : World} {g n k : Nat} {L : List Dp} (h : FilledE 45 encO 4 w g n k L) (hk : k < n) (hl : k < L.length) {f : Dp} (hf : f = L[k]) :
    FilledE 45 encO 4 ((((w.setCell ⟨g, k * 4, none⟩ (.int .i64 f.kind)).setCell ⟨g, k * 4 + 1, none⟩ (.string f.name)).setCell ⟨g, k * 4 + 2, none⟩ (.string f.to)).setCell ⟨g, k * 4 + 3, none⟩ (.string f.data)) g n (k + 1) L := by
  obtain ⟨cur, hb, hs, hc⟩ := h
  refine ⟨((((cur.setIfInBounds (k * 4) (.int .i64 f.kind)).setIfInBounds (k * 4 + 1) (.string f.name)).setIfInBounds (k * 4 + 2) (.string f.to)).setIfInBounds (k * 4 + 3) (.string f.data)), (heap_setCell_same _ g _ _ _ _ (heap_setCell_same _ g _ _ _ _ (heap_setCell_same _ g _ _ _ _ (heap_setCell_same _ g _ _ _ _ hb)))), by simpa using hs, fun j hj hj' r hr => ?_⟩
  rcases Nat.lt_or_ge j k with h | h
  · have hne : ∀ i, i < 4 → k * 4 + i ≠ j * 4 + r := fun i hi => by omega
    rw [Array.getElem?_setIfInBounds_ne (by omega)]; rw [Array.getElem?_setIfInBounds_ne (by omega)]; rw [Array.getElem?_setIfInBounds_ne (by omega)]; rw [Array.getElem?_setIfInBounds_ne (by omega)]
    exact hc j h hj' r hr
  · obtain rfl : j = k := by omega
    rw [← hf]
    have h4 : r = 0 ∨ r = 1 ∨ r = 2 ∨ r = 3 := by omega
    rcases h4 with rfl | rfl | rfl | rfl
    · simp only [Nat.add_zero]; rw [Array.getElem?_setIfInBounds_ne (by omega), Array.getElem?_setIfInBounds_ne (by omega), Array.getElem?_setIfInBounds_ne (by omega), Array.getElem?_setIfInBounds_self_of_lt (by first | omega | (simp only [Array.size_setIfInBounds]; omega))]; rfl
    · rw [Array.getElem?_setIfInBounds_ne (by omega), Array.getElem?_setIfInBounds_ne (by omega), Array.getElem?_setIfInBounds_self_of_lt (by first | omega | (simp only [Array.size_setIfInBounds]; omega))]; rfl
    · rw [Array.getElem?_setIfInBounds_ne (by omega), Array.getElem?_setIfInBounds_self_of_lt (by first | omega | (simp only [Array.size_setIfInBounds]; omega))]; rfl
    · rw [Array.getElem?_setIfInBounds_self_of_lt (by first | omega | (simp only [Array.size_setIfInBounds]; omega))]; rfl

/-- What a copy leaves: a row of its own. -/
def DOpMade (n : Nat) (L : List Dp) (w : World) (e : Ending) (w' : World) : Prop :=
  ∃ g, e = .returned (.slice (some ⟨g, 0, none⟩) n n) ∧ OwnO w' w.heap.size (.slice (some ⟨g, 0, none⟩) n n) L ∧ Bl w w' ∧ w.heap.size < w'.heap.size

set_option maxHeartbeats 1000000 in
theorem toDOpS_any (A : Option Addr) (n c : Nat) (L : List Dp) (hn : n = L.length) (w : World) (hm : n ≤ 1048576) (H1 : OpsAt w w.heap.size A L) :
    Calls Try.prog 52 #[.slice A n c] w (DOpMade n L w) := by
  have K1 := Lib.hid H1
  have HN := Lib.hid hn
  clear H1 hn
  have hmk := make_DOp n hm
  go_enter Try.func52, Try.ntmps52
  go_wp2
  clear hmk
  go_loopw [4] (fun i wr => ∃ k : Nat, k ≤ n ∧ i = .int .i64 k ∧ Bl w wr ∧ FilledE 45 encO 4 wr w.heap.size n k L) (fun i _ => n - (intOf i).toNat)
  case atStart => exact ⟨0, by omega, rfl, (by repeat' (first | exact Bl.refl _ | with_reducible assumption | with_reducible refine Bl.drew_ ?_ | with_reducible refine Bl.drewN_ ?_ _ | with_reducible refine Bl.alloc_ ?_ _ | with_reducible refine Bl.trans_ ?_ (by assumption) | with_reducible refine Bl.trans_ ?_ (And.left (by assumption)))), mkDOp n, heap_alloc_new _ _, size_mkDOp n, fun j h => absurd h (by omega)⟩
  case round =>
    obtain ⟨k, hk, rfl, hbl, hF⟩ := hrel
    have F := Lib.hid hF
    clear hF
    by_cases hlt : k < n
    · have hkl : k < L.length := by have := HN.out; omega
      obtain ⟨g1, o1, rfl, hg1, hc1⟩ := K1.out.cell (by omega)
      obtain ⟨p1, p2, p3, p4⟩ := hc1 k hkl
      rw [← (bcell hbl).1 _ _ hg1] at p1 p2 p3 p4
      clear hc1
      obtain ⟨f, hf⟩ : ∃ f, f = L[k] := ⟨_, rfl⟩
      rw [← hf] at p1 p2 p3 p4
      have HF := Lib.hid hf
      clear hf
      go_wp2_with fail
      refine (toDOp_any f _).mono ?_
      rintro e w1 ⟨rfl, hb⟩
      have F2 := Lib.hid (F.out.bl hb)
      obtain ⟨y0, -, z⟩ := F2.out.cells
      obtain ⟨v0, z0⟩ := z (k * 4) (by omega)
      have x0 := y0 (k * 4)
      obtain ⟨v1, z1⟩ := z (k * 4 + 1) (by omega)
      have x1 := y0 (k * 4 + 1)
      obtain ⟨v2, z2⟩ := z (k * 4 + 2) (by omega)
      have x2 := y0 (k * 4 + 2)
      obtain ⟨v3, z3⟩ := z (k * 4 + 3) (by omega)
      have x3 := y0 (k * 4 + 3)
      clear y0 z
      go_wp2
      go_roundw
      case rel => exact ⟨k + 1, by omega, by go_num, (Bl.set_ (Bl.set_ (Bl.set_ (Bl.set_ (hbl.trans_ hb) (Nat.le_refl _) _) (Nat.le_refl _) _) (Nat.le_refl _) _) (Nat.le_refl _) _), filledDOp_step F2.out hlt hkl HF.out⟩
      case measure => simp [intOf]; omega
    · go_wp2
      go_ret
      have e : k = n := by omega
      subst e
      exact ⟨_, rfl, F.out.own encO_len HN.out hm (Nat.le_refl _), hbl, F.out.cells.2.1⟩

end Go.Proofs.Ytipmjgciaalmbaa
