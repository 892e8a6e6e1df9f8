/-
  What is proved here: contracts of the laws' small functions on files and ops: sizes, copies; contracts of the laws' small functions on disks: sizes, copies, one held against another; a disk that comes in is copied. No conditions beyond those that each theorem states.
-/
import Derived.Test.YtgfmgmcpfefmkaaV8G02
import Derived.Test.YtgfmgmcpfefmkaaV8G04
import Derived.Test.YtgfmgmcpfefmkaaV8G03
set_option linter.unusedSimpArgs false
set_option linter.unusedVariables false
namespace Go.Proofs.Ytgfmgmcpfefmkaa
open Go.RowKit


set_option maxHeartbeats 1000000 in
theorem szFileS_any (A : Option Addr) (n c : Nat) (L : List Fl) (hn : n = L.length) (l : Int) (w : World) (hm : n ≤ 9223372036854775807) (hz : ∀ f ∈ L, f.1.size ≤ 9223372036854775807 ∧ f.2.size ≤ 9223372036854775807) (hl0 : 0 ≤ l) (hl1 : l ≤ 1048576) (H1 : FilesAt w w.heap.size A L) :
    Calls Try.prog 31 #[.slice A n c, .int .i64 l] w fun e w' => e = .returned (.int .i64 (leftI l (n + szL szFl L))) ∧ Bl w w' := by
  have K1 := Lib.hid H1
  have HN := Lib.hid hn
  have HZ := Lib.hid hz
  clear H1 hn hz
  by_cases h1 : l - n < 0
  · go_enter Try.func31, Try.ntmps31
    go_wp2
    go_ret
    exact ⟨ret_int (by rw [leftI_neg (by omega)]), Bl.refl w⟩
  · have h1' : ¬ l - (n : Int) < 0 := h1
    go_enter Try.func31, Try.ntmps31
    go_wp2
    go_loopw [1, 5] (fun q i wr => ∃ k : Nat, k ≤ n ∧ i = .int .i64 k ∧ q = .int .i64 (l - n - (szL szFl (L.take k) : Nat)) ∧ 0 ≤ l - n - (szL szFl (L.take k) : Nat) ∧ Bl w wr) (fun _ i _ => n - (intOf i).toNat)
    case atStart => exact ⟨0, by omega, rfl, by simp [szL], by simp [szL]; omega, Bl.refl w⟩
    case round =>
      obtain ⟨k, hk, rfl, rfl, h0, hbl⟩ := hrel
      have BW := Lib.hid hbl
      by_cases hlt : k < n
      · have hkl : k < L.length := by have := HN.out; omega
        obtain ⟨g1, o1, rfl, hg1, hc1⟩ := K1.out.cell (by omega)
        obtain ⟨p1, p2⟩ := hc1 k hkl
        rw [← (bcell hbl).1 _ _ hg1] at p1 p2
        clear hc1
        have hzk := HZ.out _ (List.getElem_mem hkl)
        have hst := szL_take szFl L k hkl
        have hle := szL_le szFl L (k + 1)
        obtain ⟨f, hf⟩ : ∃ f, f = L[k] := ⟨_, rfl⟩
        rw [← hf] at p1 p2 hzk hst
        obtain ⟨z0, z1⟩ := hzk
        obtain ⟨t, ht⟩ : ∃ t, t = szL szFl (L.take k) := ⟨_, rfl⟩
        rw [← ht] at h0 hst
        try rw [← ht]
        have HT := Lib.hid ht
        rw [hst] at hle
        have HST := Lib.hid hst
        have i0 : (0 : Int) ≤ (k : Int) := by omega
        have i1 : (k : Int) < (n : Int) := by omega
        clear hf ht hst hbl
        by_cases hneg : l - n - (t : Int) - ((szFl f : Nat) : Int) < 0
        · have hv := leftI_neg (l := l - n - (t : Int)) (n := szFl f) hneg
          have hv2 := leftI_neg (l := l) (n := n + szL szFl L) (by omega)
          go_wp2_with fail
          refine (szFile_any f (l - n - (t : Int)) _ z0 z1 (by omega) (by omega)).mono ?_
          rintro e w1 ⟨rfl, hb1⟩
          rw [hv]
          go_wp2
          go_ret
          exact ⟨ret_int hv2.symm, BW.out.trans_ hb1⟩
        · have hv := leftI_pos (l := l - n - (t : Int)) (n := szFl f) hneg
          go_wp2_with fail
          refine (szFile_any f (l - n - (t : Int)) _ z0 z1 (by omega) (by omega)).mono ?_
          rintro e w1 ⟨rfl, hb1⟩
          rw [hv]
          go_wp2
          go_roundw
          case rel => exact ⟨k + 1, by omega, by go_num, by rw [HST.out]; congr 1; omega, by rw [HST.out]; omega, BW.out.trans_ hb1⟩
          case measure => simp [intOf]; omega
      · obtain rfl : k = n := by omega
        have e : L.take k = L := List.take_of_length_le (by have := HN.out; omega)
        rw [e] at h0
        try rw [e]
        go_wp2
        go_ret
        exact ⟨ret_int (by rw [leftI_pos (by omega)]; omega), hbl⟩

set_option maxHeartbeats 400000 in
theorem toFile_any (f : Fl) (w : World) :
    Calls Try.prog 74 #[.agg #[.string f.1, .string f.2]] w fun e w' => e = .returned (.agg #[.string f.1, .string f.2]) ∧ Bl w w' := by
  obtain ⟨a, b⟩ := f
  go_enter Try.func74, Try.ntmps74
  go_wp2
  exact bodyPost_ret (v := .agg #[.string a, .string b]) (by simp [results, Try.results74, go_sem]) rfl ⟨rfl, (by repeat' (first | exact Bl.refl _ | with_reducible assumption | with_reducible refine Bl.drew_ ?_ | with_reducible refine Bl.drewN_ ?_ _ | with_reducible refine Bl.alloc_ ?_ _ | with_reducible refine Bl.trans_ ?_ (by assumption) | with_reducible refine Bl.trans_ ?_ (And.left (by assumption))))⟩

def mkFile (n : Nat) : Array Value := madeCells (Value.agg #[.string ⟨#[]⟩, .string ⟨#[]⟩]).cells (n * 2)
theorem size_mkFile (n : Nat) : (mkFile n).size = n * 2 := size_madeCells _ _
theorem make_File (n : Nat) (hn : n ≤ 1048576) (w : World) : (Instr.makeSlice 28 (.int .i64 (n : Int)) (.int .i64 (n : Int))).run Try.prog w = .ok (.slice (some ⟨w.heap.size, 0, none⟩) n n) (w.alloc (.cells (mkFile n) 86)) := by
  obtain ⟨i0, hi, hz0, hz1, hz2⟩ := info_parts infoFile
  have h := run_make_rowN (P := Try.prog) 28 86 i0 _ Try.underlying28 hi hz0 .i64 .i64 n n (Nat.le_refl _) (by rw [hz2]; omega) (by omega) w
  rw [hz1] at h
  exact h

theorem filledFile_step {w : World} {g n k : Nat} {L : List Fl} (h : FilledE 86 encF 2 w g n k L) (hk : k < n) (hl : k < L.length) {f : Fl} (hf : f = L[k]) :
    FilledE 86 encF 2 ((w.setCell ⟨g, k * 2, none⟩ (.string f.1)).setCell ⟨g, k * 2 + 1, none⟩ (.string f.2)) g n (k + 1) L := by
  obtain ⟨cur, hb, hs, hc⟩ := h
  refine ⟨((cur.setIfInBounds (k * 2) (.string f.1)).setIfInBounds (k * 2 + 1) (.string f.2)), (heap_setCell_same _ g _ _ _ _ (heap_setCell_same _ g _ _ _ _ hb)), by simpa using hs, fun j hj hj' r hr => ?_⟩
  rcases Nat.lt_or_ge j k with h | h
  · have hne : ∀ i, i < 2 → k * 2 + i ≠ j * 2 + r := fun i hi => by omega
    rw [Array.getElem?_setIfInBounds_ne (by omega)]; rw [Array.getElem?_setIfInBounds_ne (by omega)]
    exact hc j h hj' r hr
  · obtain rfl : j = k := by omega
    rw [← hf]
    have h2 : r = 0 ∨ r = 1 := by omega
    rcases h2 with rfl | rfl
    · simp only [Nat.add_zero]; rw [Array.getElem?_setIfInBounds_ne (by omega), Array.getElem?_setIfInBounds_self_of_lt (by first | omega | (simp only [Array.size_setIfInBounds]; omega))]; rfl
    · rw [Array.getElem?_setIfInBounds_self_of_lt (by first | omega | (simp only [Array.size_setIfInBounds]; omega))]; rfl

/-- What a copy leaves: a row of its own. -/
def FileMade (n : Nat) (L : List Fl) (w : World) (e : Ending) (w' : World) : Prop :=
  ∃ g, e = .returned (.slice (some ⟨g, 0, none⟩) n n) ∧ OwnF w' w.heap.size (.slice (some ⟨g, 0, none⟩) n n) L ∧ Bl w w' ∧ w.heap.size < w'.heap.size

set_option maxHeartbeats 1000000 in
theorem toFileS_any (A : Option Addr) (n c : Nat) (L : List Fl) (hn : n = L.length) (w : World) (hm : n ≤ 1048576) (H1 : FilesAt w w.heap.size A L) :
    Calls Try.prog 36 #[.slice A n c] w (FileMade n L w) := by
  have K1 := Lib.hid H1
  have HN := Lib.hid hn
  clear H1 hn
  have hmk := make_File n hm
  go_enter Try.func36, Try.ntmps36
  go_wp2
  clear hmk
  go_loopw [4] (fun i wr => ∃ k : Nat, k ≤ n ∧ i = .int .i64 k ∧ Bl w wr ∧ FilledE 86 encF 2 wr w.heap.size n k L) (fun i _ => n - (intOf i).toNat)
  case atStart => exact ⟨0, by omega, rfl, (by repeat' (first | exact Bl.refl _ | with_reducible assumption | with_reducible refine Bl.drew_ ?_ | with_reducible refine Bl.drewN_ ?_ _ | with_reducible refine Bl.alloc_ ?_ _ | with_reducible refine Bl.trans_ ?_ (by assumption) | with_reducible refine Bl.trans_ ?_ (And.left (by assumption)))), mkFile n, heap_alloc_new _ _, size_mkFile n, fun j h => absurd h (by omega)⟩
  case round =>
    obtain ⟨k, hk, rfl, hbl, hF⟩ := hrel
    have F := Lib.hid hF
    clear hF
    by_cases hlt : k < n
    · have hkl : k < L.length := by have := HN.out; omega
      obtain ⟨g1, o1, rfl, hg1, hc1⟩ := K1.out.cell (by omega)
      obtain ⟨p1, p2⟩ := hc1 k hkl
      rw [← (bcell hbl).1 _ _ hg1] at p1 p2
      clear hc1
      obtain ⟨f, hf⟩ : ∃ f, f = L[k] := ⟨_, rfl⟩
      rw [← hf] at p1 p2
      have HF := Lib.hid hf
      clear hf
      go_wp2_with fail
      refine (toFile_any f _).mono ?_
      rintro e w1 ⟨rfl, hb⟩
      have F2 := Lib.hid (F.out.bl hb)
      obtain ⟨y0, -, z⟩ := F2.out.cells
      obtain ⟨v0, z0⟩ := z (k * 2) (by omega)
      have x0 := y0 (k * 2)
      obtain ⟨v1, z1⟩ := z (k * 2 + 1) (by omega)
      have x1 := y0 (k * 2 + 1)
      clear y0 z
      go_wp2
      go_roundw
      case rel => exact ⟨k + 1, by omega, by go_num, (Bl.set_ (Bl.set_ (hbl.trans_ hb) (Nat.le_refl _) _) (Nat.le_refl _) _), filledFile_step F2.out hlt hkl HF.out⟩
      case measure => simp [intOf]; omega
    · go_wp2
      go_ret
      have e : k = n := by omega
      subst e
      exact ⟨_, rfl, F.out.own encF_len HN.out hm (Nat.le_refl _), hbl, F.out.cells.2.1⟩

set_option maxHeartbeats 1000000 in
theorem szDOpS_any (A : Option Addr) (n c : Nat) (L : List Dp) (hn : n = L.length) (l : Int) (w : World) (hm : n ≤ 9223372036854775807) (hz : ∀ f ∈ L, f.name.size ≤ 9223372036854775807 ∧ f.to.size ≤ 9223372036854775807 ∧ f.data.size ≤ 9223372036854775807) (hl0 : 0 ≤ l) (hl1 : l ≤ 1048576) (H1 : OpsAt w w.heap.size A L) :
    Calls Try.prog 32 #[.slice A n c, .int .i64 l] w fun e w' => e = .returned (.int .i64 (leftI l (n + szL szDp L))) ∧ Bl w w' := by
  have K1 := Lib.hid H1
  have HN := Lib.hid hn
  have HZ := Lib.hid hz
  clear H1 hn hz
  by_cases h1 : l - n < 0
  · go_enter Try.func32, Try.ntmps32
    go_wp2
    go_ret
    exact ⟨ret_int (by rw [leftI_neg (by omega)]), Bl.refl w⟩
  · have h1' : ¬ l - (n : Int) < 0 := h1
    go_enter Try.func32, Try.ntmps32
    go_wp2
    go_loopw [1, 5] (fun q i wr => ∃ k : Nat, k ≤ n ∧ i = .int .i64 k ∧ q = .int .i64 (l - n - (szL szDp (L.take k) : Nat)) ∧ 0 ≤ l - n - (szL szDp (L.take k) : Nat) ∧ Bl w wr) (fun _ i _ => n - (intOf i).toNat)
    case atStart => exact ⟨0, by omega, rfl, by simp [szL], by simp [szL]; omega, Bl.refl w⟩
    case round =>
      obtain ⟨k, hk, rfl, rfl, h0, hbl⟩ := hrel
      have BW := Lib.hid hbl
      by_cases hlt : k < n
      · have hkl : k < L.length := by have := HN.out; omega
        obtain ⟨g1, o1, rfl, hg1, hc1⟩ := K1.out.cell (by omega)
        obtain ⟨p1, p2, p3, p4⟩ := hc1 k hkl
        rw [← (bcell hbl).1 _ _ hg1] at p1 p2 p3 p4
        clear hc1
        have hzk := HZ.out _ (List.getElem_mem hkl)
        have hst := szL_take szDp L k hkl
        have hle := szL_le szDp L (k + 1)
        obtain ⟨f, hf⟩ : ∃ f, f = L[k] := ⟨_, rfl⟩
        rw [← hf] at p1 p2 p3 p4 hzk hst
        obtain ⟨z0, z1, z2⟩ := hzk
        obtain ⟨t, ht⟩ : ∃ t, t = szL szDp (L.take k) := ⟨_, rfl⟩
        rw [← ht] at h0 hst
        try rw [← ht]
        have HT := Lib.hid ht
        rw [hst] at hle
        have HST := Lib.hid hst
        have i0 : (0 : Int) ≤ (k : Int) := by omega
        have i1 : (k : Int) < (n : Int) := by omega
        clear hf ht hst hbl
        by_cases hneg : l - n - (t : Int) - ((szDp f : Nat) : Int) < 0
        · have hv := leftI_neg (l := l - n - (t : Int)) (n := szDp f) hneg
          have hv2 := leftI_neg (l := l) (n := n + szL szDp L) (by omega)
          go_wp2_with fail
          refine (szDOp_any f (l - n - (t : Int)) _ z0 z1 z2 (by omega) (by omega)).mono ?_
          rintro e w1 ⟨rfl, hb1⟩
          rw [hv]
          go_wp2
          go_ret
          exact ⟨ret_int hv2.symm, BW.out.trans_ hb1⟩
        · have hv := leftI_pos (l := l - n - (t : Int)) (n := szDp f) hneg
          go_wp2_with fail
          refine (szDOp_any f (l - n - (t : Int)) _ z0 z1 z2 (by omega) (by omega)).mono ?_
          rintro e w1 ⟨rfl, hb1⟩
          rw [hv]
          go_wp2
          go_roundw
          case rel => exact ⟨k + 1, by omega, by go_num, by rw [HST.out]; congr 1; omega, by rw [HST.out]; omega, BW.out.trans_ hb1⟩
          case measure => simp [intOf]; omega
      · obtain rfl : k = n := by omega
        have e : L.take k = L := List.take_of_length_le (by have := HN.out; omega)
        rw [e] at h0
        try rw [e]
        go_wp2
        go_ret
        exact ⟨ret_int (by rw [leftI_pos (by omega)]; omega), hbl⟩

set_option maxHeartbeats 400000 in
theorem toDOp_any (f : Dp) (w : World) :
    Calls Try.prog 75 #[.agg #[.int .i64 f.kind, .string f.name, .string f.to, .string f.data]] w fun e w' => e = .returned (.agg #[.int .i64 f.kind, .string f.name, .string f.to, .string f.data]) ∧ Bl w w' := by
  obtain ⟨a, b, c, d⟩ := f
  go_enter Try.func75, Try.ntmps75
  go_wp2
  exact bodyPost_ret (v := .agg #[.int .i64 a, .string b, .string c, .string d]) (by simp [results, Try.results75, go_sem]) rfl ⟨rfl, (by repeat' (first | exact Bl.refl _ | with_reducible assumption | with_reducible refine Bl.drew_ ?_ | with_reducible refine Bl.drewN_ ?_ _ | with_reducible refine Bl.alloc_ ?_ _ | with_reducible refine Bl.trans_ ?_ (by assumption) | with_reducible refine Bl.trans_ ?_ (And.left (by assumption))))⟩

def mkDOp (n : Nat) : Array Value := madeCells (Value.agg #[.int .i64 0, .string ⟨#[]⟩, .string ⟨#[]⟩, .string ⟨#[]⟩]).cells (n * 4)
theorem size_mkDOp (n : Nat) : (mkDOp n).size = n * 4 := size_madeCells _ _
theorem make_DOp (n : Nat) (hn : n ≤ 1048576) (w : World) : (Instr.makeSlice 29 (.int .i64 (n : Int)) (.int .i64 (n : Int))).run Try.prog w = .ok (.slice (some ⟨w.heap.size, 0, none⟩) n n) (w.alloc (.cells (mkDOp n) 51)) := by
  obtain ⟨i0, hi, hz0, hz1, hz2⟩ := info_parts infoDOp
  have h := run_make_rowN (P := Try.prog) 29 51 i0 _ Try.underlying29 hi hz0 .i64 .i64 n n (Nat.le_refl _) (by rw [hz2]; omega) (by omega) w
  rw [hz1] at h
  exact h

theorem filledDOp_step {w : World} {g n k : Nat} {L : List Dp} (h : FilledE 51 encO 4 w g n k L) (hk : k < n) (hl : k < L.length) {f : Dp} (hf : f = L[k]) :
    FilledE 51 encO 4 ((((w.setCell ⟨g, k * 4, none⟩ (.int .i64 f.kind)).setCell ⟨g, k * 4 + 1, none⟩ (.string f.name)).setCell ⟨g, k * 4 + 2, none⟩ (.string f.to)).setCell ⟨g, k * 4 + 3, none⟩ (.string f.data)) g n (k + 1) L := by
  obtain ⟨cur, hb, hs, hc⟩ := h
  refine ⟨((((cur.setIfInBounds (k * 4) (.int .i64 f.kind)).setIfInBounds (k * 4 + 1) (.string f.name)).setIfInBounds (k * 4 + 2) (.string f.to)).setIfInBounds (k * 4 + 3) (.string f.data)), (heap_setCell_same _ g _ _ _ _ (heap_setCell_same _ g _ _ _ _ (heap_setCell_same _ g _ _ _ _ (heap_setCell_same _ g _ _ _ _ hb)))), by simpa using hs, fun j hj hj' r hr => ?_⟩
  rcases Nat.lt_or_ge j k with h | h
  · have hne : ∀ i, i < 4 → k * 4 + i ≠ j * 4 + r := fun i hi => by omega
    rw [Array.getElem?_setIfInBounds_ne (by omega)]; rw [Array.getElem?_setIfInBounds_ne (by omega)]; rw [Array.getElem?_setIfInBounds_ne (by omega)]; rw [Array.getElem?_setIfInBounds_ne (by omega)]
    exact hc j h hj' r hr
  · obtain rfl : j = k := by omega
    rw [← hf]
    have h4 : r = 0 ∨ r = 1 ∨ r = 2 ∨ r = 3 := by omega
    rcases h4 with rfl | rfl | rfl | rfl
    · simp only [Nat.add_zero]; rw [Array.getElem?_setIfInBounds_ne (by omega), Array.getElem?_setIfInBounds_ne (by omega), Array.getElem?_setIfInBounds_ne (by omega), Array.getElem?_setIfInBounds_self_of_lt (by first | omega | (simp only [Array.size_setIfInBounds]; omega))]; rfl
    · rw [Array.getElem?_setIfInBounds_ne (by omega), Array.getElem?_setIfInBounds_ne (by omega), Array.getElem?_setIfInBounds_self_of_lt (by first | omega | (simp only [Array.size_setIfInBounds]; omega))]; rfl
    · rw [Array.getElem?_setIfInBounds_ne (by omega), Array.getElem?_setIfInBounds_self_of_lt (by first | omega | (simp only [Array.size_setIfInBounds]; omega))]; rfl
    · rw [Array.getElem?_setIfInBounds_self_of_lt (by first | omega | (simp only [Array.size_setIfInBounds]; omega))]; rfl

/-- What a copy leaves: a row of its own. -/
def DOpMade (n : Nat) (L : List Dp) (w : World) (e : Ending) (w' : World) : Prop :=
  ∃ g, e = .returned (.slice (some ⟨g, 0, none⟩) n n) ∧ OwnO w' w.heap.size (.slice (some ⟨g, 0, none⟩) n n) L ∧ Bl w w' ∧ w.heap.size < w'.heap.size

set_option maxHeartbeats 1000000 in
theorem toDOpS_any (A : Option Addr) (n c : Nat) (L : List Dp) (hn : n = L.length) (w : World) (hm : n ≤ 1048576) (H1 : OpsAt w w.heap.size A L) :
    Calls Try.prog 37 #[.slice A n c] w (DOpMade n L w) := by
  have K1 := Lib.hid H1
  have HN := Lib.hid hn
  clear H1 hn
  have hmk := make_DOp n hm
  go_enter Try.func37, Try.ntmps37
  go_wp2
  clear hmk
  go_loopw [4] (fun i wr => ∃ k : Nat, k ≤ n ∧ i = .int .i64 k ∧ Bl w wr ∧ FilledE 51 encO 4 wr w.heap.size n k L) (fun i _ => n - (intOf i).toNat)
  case atStart => exact ⟨0, by omega, rfl, (by repeat' (first | exact Bl.refl _ | with_reducible assumption | with_reducible refine Bl.drew_ ?_ | with_reducible refine Bl.drewN_ ?_ _ | with_reducible refine Bl.alloc_ ?_ _ | with_reducible refine Bl.trans_ ?_ (by assumption) | with_reducible refine Bl.trans_ ?_ (And.left (by assumption)))), mkDOp n, heap_alloc_new _ _, size_mkDOp n, fun j h => absurd h (by omega)⟩
  case round =>
    obtain ⟨k, hk, rfl, hbl, hF⟩ := hrel
    have F := Lib.hid hF
    clear hF
    by_cases hlt : k < n
    · have hkl : k < L.length := by have := HN.out; omega
      obtain ⟨g1, o1, rfl, hg1, hc1⟩ := K1.out.cell (by omega)
      obtain ⟨p1, p2, p3, p4⟩ := hc1 k hkl
      rw [← (bcell hbl).1 _ _ hg1] at p1 p2 p3 p4
      clear hc1
      obtain ⟨f, hf⟩ : ∃ f, f = L[k] := ⟨_, rfl⟩
      rw [← hf] at p1 p2 p3 p4
      have HF := Lib.hid hf
      clear hf
      go_wp2_with fail
      refine (toDOp_any f _).mono ?_
      rintro e w1 ⟨rfl, hb⟩
      have F2 := Lib.hid (F.out.bl hb)
      obtain ⟨y0, -, z⟩ := F2.out.cells
      obtain ⟨v0, z0⟩ := z (k * 4) (by omega)
      have x0 := y0 (k * 4)
      obtain ⟨v1, z1⟩ := z (k * 4 + 1) (by omega)
      have x1 := y0 (k * 4 + 1)
      obtain ⟨v2, z2⟩ := z (k * 4 + 2) (by omega)
      have x2 := y0 (k * 4 + 2)
      obtain ⟨v3, z3⟩ := z (k * 4 + 3) (by omega)
      have x3 := y0 (k * 4 + 3)
      clear y0 z
      go_wp2
      go_roundw
      case rel => exact ⟨k + 1, by omega, by go_num, (Bl.set_ (Bl.set_ (Bl.set_ (Bl.set_ (hbl.trans_ hb) (Nat.le_refl _) _) (Nat.le_refl _) _) (Nat.le_refl _) _) (Nat.le_refl _) _), filledDOp_step F2.out hlt hkl HF.out⟩
      case measure => simp [intOf]; omega
    · go_wp2
      go_ret
      have e : k = n := by omega
      subst e
      exact ⟨_, rfl, F.out.own encO_len HN.out hm (Nat.le_refl _), hbl, F.out.cells.2.1⟩

end Go.Proofs.Ytgfmgmcpfefmkaa

set_option linter.unusedSimpArgs false
set_option linter.unusedVariables false
namespace Go.Proofs.Ytgfmgmcpfefmkaa
open Go.RowKit

/-- How much a disk takes of what is left. -/
def dkSz (L1 L2 : List Fl) (O : List Dp) : Nat := (L1.length + szL szFl L1) + (L2.length + szL szFl L2) + (O.length + szL szDp O)
theorem leftI_add {l : Int} {a b : Nat} (h : ¬ l - a < 0) : leftI (l - a) b = leftI l (a + b) := by
  unfold leftI
  rw [show l - (a : Int) - (b : Int) = l - ((a + b : Nat) : Int) from by omega]

set_option maxRecDepth 100000 in
set_option maxHeartbeats 2000000 in
theorem szDisk_any (A1 A2 A3 : Option Addr) (n1 c1 n2 c2 n3 c3 : Nat) (L1 L2 : List Fl) (O : List Dp) (hn1 : n1 = L1.length) (hn2 : n2 = L2.length) (hn3 : n3 = O.length) (w : World)
    (hm1 : n1 ≤ 9223372036854775807) (hm2 : n2 ≤ 9223372036854775807) (hm3 : n3 ≤ 9223372036854775807)
    (hz1 : ∀ f ∈ L1, f.1.size ≤ 9223372036854775807 ∧ f.2.size ≤ 9223372036854775807) (hz2 : ∀ f ∈ L2, f.1.size ≤ 9223372036854775807 ∧ f.2.size ≤ 9223372036854775807)
    (hz3 : ∀ o ∈ O, o.name.size ≤ 9223372036854775807 ∧ o.to.size ≤ 9223372036854775807 ∧ o.data.size ≤ 9223372036854775807)
    (H1 : FilesAt w w.heap.size A1 L1) (H2 : FilesAt w w.heap.size A2 L2) (H3 : OpsAt w w.heap.size A3 O) :
    Calls Try.prog 8 #[.agg #[.slice A1 n1 c1, .slice A2 n2 c2, .slice A3 n3 c3], .int .i64 1048576] w fun e w' => e = .returned (.int .i64 (leftI 1048576 (dkSz L1 L2 O))) ∧ Bl w w' := by
  have K1 := Lib.hid H1
  have K2 := Lib.hid H2
  have K3 := Lib.hid H3
  have N1 := Lib.hid hn1
  have N2 := Lib.hid hn2
  have N3 := Lib.hid hn3
  have HD := Lib.hid (show dkSz L1 L2 O = (n1 + szL szFl L1) + (n2 + szL szFl L2) + (n3 + szL szDp O) from by unfold dkSz; rw [hn1, hn2, hn3])
  obtain ⟨a, ha⟩ : ∃ a, a = n1 + szL szFl L1 := ⟨_, rfl⟩
  obtain ⟨b, hb⟩ : ∃ b, b = n2 + szL szFl L2 := ⟨_, rfl⟩
  obtain ⟨c, hc⟩ : ∃ c, c = n3 + szL szDp O := ⟨_, rfl⟩
  rw [← ha, ← hb, ← hc] at HD
  have HA := Lib.hid ha
  have HB := Lib.hid hb
  have HC := Lib.hid hc
  have Z1 := Lib.hid hz1
  have Z2 := Lib.hid hz2
  have Z3 := Lib.hid hz3
  clear H1 H2 H3 hn1 hn2 hn3 ha hb hc hz1 hz2 hz3
  by_cases h1 : (1048576 : Int) - a < 0
  · go_enter Try.func8, Try.ntmps8
    go_wp2_with fail
    refine (szFileS_any A1 n1 c1 L1 N1.out 1048576 _ hm1 Z1.out (by omega) (by omega) (K1.out.bl (by repeat' (first | exact Bl.refl _ | with_reducible assumption | with_reducible refine Bl.drew_ ?_ | with_reducible refine Bl.drewN_ ?_ _ | with_reducible refine Bl.alloc_ ?_ _ | with_reducible refine Bl.trans_ ?_ (by assumption) | with_reducible refine Bl.trans_ ?_ (And.left (by assumption)))))).mono ?_
    rintro e w1 ⟨rfl, hb1⟩
    rw [← HA.out, leftI_neg (l := 1048576) (n := a) (by omega)]
    go_wp2
    go_ret
    exact ⟨ret_int (by rw [HD.out, leftI_neg (by omega)]), (Bl.alloc_ (Bl.refl w) _).trans_ hb1⟩
  · by_cases h2 : (1048576 : Int) - a - b < 0
    · have p1 : ¬ (1048576 : Int) - a < 0 := h1
      go_enter Try.func8, Try.ntmps8
      go_wp2_with fail
      refine (szFileS_any A1 n1 c1 L1 N1.out 1048576 _ hm1 Z1.out (by omega) (by omega) (K1.out.bl (by repeat' (first | exact Bl.refl _ | with_reducible assumption | with_reducible refine Bl.drew_ ?_ | with_reducible refine Bl.drewN_ ?_ _ | with_reducible refine Bl.alloc_ ?_ _ | with_reducible refine Bl.trans_ ?_ (by assumption) | with_reducible refine Bl.trans_ ?_ (And.left (by assumption)))))).mono ?_
      rintro e w1 ⟨rfl, hb1⟩
      obtain ⟨q0, q1, q2⟩ := box3 hb1
      have B1 := Lib.hid ((Bl.alloc_ (Bl.refl w) _).trans_ hb1)
      rw [← HA.out, leftI_pos (l := 1048576) (n := a) (by omega)]
      go_wp2_with fail
      refine (szFileS_any A2 n2 c2 L2 N2.out _ _ hm2 Z2.out (by omega) (by omega) (K2.out.bl B1.out)).mono ?_
      rintro e w2 ⟨rfl, hb2⟩
      rw [← HB.out, leftI_neg (l := 1048576 - (a : Int)) (n := b) (by omega)]
      go_wp2
      go_ret
      exact ⟨ret_int (by rw [HD.out, leftI_neg (by omega)]), B1.out.trans_ hb2⟩
    · have p1 : ¬ (1048576 : Int) - a < 0 := h1
      have p2 : ¬ (1048576 : Int) - a - b < 0 := h2
      go_enter Try.func8, Try.ntmps8
      go_wp2_with fail
      refine (szFileS_any A1 n1 c1 L1 N1.out 1048576 _ hm1 Z1.out (by omega) (by omega) (K1.out.bl (by repeat' (first | exact Bl.refl _ | with_reducible assumption | with_reducible refine Bl.drew_ ?_ | with_reducible refine Bl.drewN_ ?_ _ | with_reducible refine Bl.alloc_ ?_ _ | with_reducible refine Bl.trans_ ?_ (by assumption) | with_reducible refine Bl.trans_ ?_ (And.left (by assumption)))))).mono ?_
      rintro e w1 ⟨rfl, hb1⟩
      obtain ⟨q0, q1, q2⟩ := box3 hb1
      have X1 := Lib.hid hb1
      have B1 := Lib.hid ((Bl.alloc_ (Bl.refl w) _).trans_ hb1)
      rw [← HA.out, leftI_pos (l := 1048576) (n := a) (by omega)]
      go_wp2_with fail
      refine (szFileS_any A2 n2 c2 L2 N2.out _ _ hm2 Z2.out (by omega) (by omega) (K2.out.bl B1.out)).mono ?_
      rintro e w2 ⟨rfl, hb2⟩
      obtain ⟨q0, q1, q2⟩ := box3 (X1.out.trans_ hb2)
      have B2 := Lib.hid (B1.out.trans_ hb2)
      rw [← HB.out, leftI_pos (l := 1048576 - (a : Int)) (n := b) (by omega)]
      go_wp2_with fail
      refine (szDOpS_any A3 n3 c3 O N3.out _ _ hm3 Z3.out (by omega) (by omega) (K3.out.bl B2.out)).mono ?_
      rintro e w3 ⟨rfl, hb3⟩
      have B3 := Lib.hid (B2.out.trans_ hb3)
      rw [← HC.out]
      have HE : leftI ((1048576 : Int) - a - b) c = leftI 1048576 (dkSz L1 L2 O) := by
        rw [HD.out, show (1048576 : Int) - (a : Int) - (b : Int) = 1048576 - ((a + b : Nat) : Int) from by omega, leftI_add (by omega)]
      rw [HE]
      have hlo : leftI 1048576 (dkSz L1 L2 O) < 0 → leftI 1048576 (dkSz L1 L2 O) = -1 := fun h => by
        unfold leftI at h ⊢
        split at h
        · rename_i h'; rw [if_pos h']
        · omega
      obtain ⟨r, hr⟩ : ∃ r, r = leftI 1048576 (dkSz L1 L2 O) := ⟨_, rfl⟩
      rw [← hr] at hlo ⊢
      have HR := Lib.hid hr
      clear hr HE hb1 hb2 hb3 q0 q1 q2
      by_cases h3 : r < 0
      · obtain rfl := hlo h3
        go_wp2
        go_ret
        exact ⟨ret_int HR.out, B3.out⟩
      · clear hlo
        go_wp2
        go_ret
        exact ⟨ret_int HR.out, B3.out⟩

/-- A disk that has been made anew: three rows of its own. -/
structure DiskRows (w : World) (B g1 g2 g3 n1 n2 n3 : Nat) (L1 L2 : List Fl) (O : List Dp) : Prop where
  r1 : OwnF w B (.slice (some ⟨g1, 0, none⟩) n1 n1) L1
  r2 : OwnF w B (.slice (some ⟨g2, 0, none⟩) n2 n2) L2
  r3 : OwnO w B (.slice (some ⟨g3, 0, none⟩) n3 n3) O
  d12 : g1 ≠ g2
  d13 : g1 ≠ g3
  d23 : g2 ≠ g3
def DiskMade (n1 n2 n3 : Nat) (L1 L2 : List Fl) (O : List Dp) (w : World) (e : Ending) (w' : World) : Prop :=
  ∃ g1 g2 g3, e = .returned (.agg #[.slice (some ⟨g1, 0, none⟩) n1 n1, .slice (some ⟨g2, 0, none⟩) n2 n2, .slice (some ⟨g3, 0, none⟩) n3 n3]) ∧ DiskRows w' w.heap.size g1 g2 g3 n1 n2 n3 L1 L2 O ∧ Bl w w'

theorem own_gF {w : World} {B g n c : Nat} {L : List Fl} (h : OwnF w B (.slice (some ⟨g, 0, none⟩) n c) L) : B ≤ g ∧ g < w.heap.size := Owns.lt_ (show Owns _ _ _ _ _ _ _ from h) g rfl
theorem own_gO {w : World} {B g n c : Nat} {L : List Dp} (h : OwnO w B (.slice (some ⟨g, 0, none⟩) n c) L) : B ≤ g ∧ g < w.heap.size := Owns.lt_ (show Owns _ _ _ _ _ _ _ from h) g rfl
theorem OwnF.bl {w w' : World} {B : Nat} {v : Value} {L : List Fl} (h : OwnF w B v L) (hb : Bl w w') : OwnF w' B v L := Owns.bl h hb
theorem OwnO.bl {w w' : World} {B : Nat} {v : Value} {L : List Dp} (h : OwnO w B v L) (hb : Bl w w') : OwnO w' B v L := Owns.bl h hb
theorem OwnF.low {w : World} {B B' : Nat} {v : Value} {L : List Fl} (h : OwnF w B' v L) (hB : B ≤ B') : OwnF w B v L := Owns.low h hB
theorem OwnO.low {w : World} {B B' : Nat} {v : Value} {L : List Dp} (h : OwnO w B' v L) (hB : B ≤ B') : OwnO w B v L := Owns.low h hB
theorem OwnF.at_ {w : World} {B g n c : Nat} {L : List Fl} (h : OwnF w B (.slice (some ⟨g, 0, none⟩) n c) L) : FilesAt w w.heap.size (some ⟨g, 0, none⟩) L := by
  obtain ⟨A, c', e, _, h1, _⟩ := own_shapeF h
  injection e with e1 e2 e3
  rw [e1]; exact h1
theorem OwnO.at_ {w : World} {B g n c : Nat} {L : List Dp} (h : OwnO w B (.slice (some ⟨g, 0, none⟩) n c) L) : OpsAt w w.heap.size (some ⟨g, 0, none⟩) L := by
  obtain ⟨A, c', e, _, h1, _⟩ := Owns.shape (show Owns _ _ _ _ _ _ _ from h)
  injection e with e1 e2 e3
  rw [e1]; exact h1
theorem OwnF.setOther {w : World} {B g n c : Nat} {L : List Fl} (h : OwnF w B (.slice (some ⟨g, 0, none⟩) n c) L) {b : Nat} (hb : b < B) (o : Nat) (u : Value) : OwnF (w.setCell ⟨b, o, none⟩ u) B (.slice (some ⟨g, 0, none⟩) n c) L :=
  Owns.setOther (show Owns _ _ _ _ _ _ _ from h) (fun g' hg' => by
    have := (Owns.lt (show Owns _ _ _ _ _ _ _ from h) g' hg').1
    show g' ≠ b
    omega) u
theorem OwnO.setOther {w : World} {B g n c : Nat} {L : List Dp} (h : OwnO w B (.slice (some ⟨g, 0, none⟩) n c) L) {b : Nat} (hb : b < B) (o : Nat) (u : Value) : OwnO (w.setCell ⟨b, o, none⟩ u) B (.slice (some ⟨g, 0, none⟩) n c) L :=
  Owns.setOther (show Owns _ _ _ _ _ _ _ from h) (fun g' hg' => by
    have := (Owns.lt (show Owns _ _ _ _ _ _ _ from h) g' hg').1
    show g' ≠ b
    omega) u

end Go.Proofs.Ytgfmgmcpfefmkaa

set_option linter.unusedSimpArgs false
set_option linter.unusedVariables false
namespace Go.Proofs.Ytgfmgmcpfefmkaa
open Go.RowKit

set_option maxRecDepth 100000 in
set_option maxHeartbeats 4000000 in
theorem toDisk_any (A1 A2 A3 : Option Addr) (n1 c1 n2 c2 n3 c3 : Nat) (L1 L2 : List Fl) (O : List Dp) (hn1 : n1 = L1.length) (hn2 : n2 = L2.length) (hn3 : n3 = O.length) (w : World)
    (hm1 : n1 ≤ 1048576) (hm2 : n2 ≤ 1048576) (hm3 : n3 ≤ 1048576) (H1 : FilesAt w w.heap.size A1 L1) (H2 : FilesAt w w.heap.size A2 L2) (H3 : OpsAt w w.heap.size A3 O) :
    Calls Try.prog 10 #[.agg #[.slice A1 n1 c1, .slice A2 n2 c2, .slice A3 n3 c3]] w (DiskMade n1 n2 n3 L1 L2 O w) := by
  have K1 := Lib.hid H1
  have K2 := Lib.hid H2
  have K3 := Lib.hid H3
  have N1 := Lib.hid hn1
  have N2 := Lib.hid hn2
  have N3 := Lib.hid hn3
  clear H1 H2 H3 hn1 hn2 hn3
  go_enter Try.func10, Try.ntmps10
  go_wp2_with fail
  refine (toFileS_any A1 n1 c1 L1 N1.out _ hm1 (K1.out.bl (by repeat' (first | exact Bl.refl _ | with_reducible assumption | with_reducible refine Bl.drew_ ?_ | with_reducible refine Bl.drewN_ ?_ _ | with_reducible refine Bl.alloc_ ?_ _ | with_reducible refine Bl.trans_ ?_ (by assumption) | with_reducible refine Bl.trans_ ?_ (And.left (by assumption)))))).mono ?_
  rintro e w1 ⟨g1, rfl, ho1, hb1, -⟩
  have s1 := hb1.size
  simp only [World.size_alloc] at s1
  have h1 := own_gF ho1
  simp only [World.size_alloc] at h1
  have O1 := Lib.hid (show OwnF w1 (w.heap.size + 1 + 1 + 1) (.slice (some ⟨g1, 0, none⟩) n1 n1) L1 from by simpa only [World.size_alloc] using ho1)
  have X1 := Lib.hid (show Bl w (w1.setCell ⟨w.heap.size + 1 + 1, 0, none⟩ (.slice (some ⟨g1, 0, none⟩) n1 n1)) from Bl.set_ ((((Bl.refl w).alloc_ _).alloc_ _).alloc_ _ |>.trans_ hb1) (by show w.heap.size ≤ w.heap.size + 1 + 1; omega) _)
  obtain ⟨hc1, hf1⟩ := bcell hb1
  have i1 : w.heap.size < w1.heap.size := by omega
  have i2 : w.heap.size + 1 < w1.heap.size := by omega
  have i3 : w.heap.size + 1 + 1 < w1.heap.size := by omega
  clear ho1 hb1
  go_wp2_with fail
  refine (toFileS_any A2 n2 c2 L2 N2.out _ hm2 (K2.out.bl X1.out)).mono ?_
  rintro e w2 ⟨g2, rfl, ho2, hb2, -⟩
  have s2 := hb2.size
  simp only [World.size_setCell] at s2
  have h2 := own_gF ho2
  simp only [World.size_setCell] at h2
  have O2 := Lib.hid (show OwnF w2 w1.heap.size (.slice (some ⟨g2, 0, none⟩) n2 n2) L2 from by simpa only [World.size_setCell] using ho2)
  have O1b := Lib.hid ((O1.out.setOther (b := w.heap.size + 1 + 1) (by omega) 0 (.slice (some ⟨g1, 0, none⟩) n1 n1)).bl hb2)
  have X2 := Lib.hid (show Bl w (w2.setCell ⟨w.heap.size + 1 + 1, 1, none⟩ (.slice (some ⟨g2, 0, none⟩) n2 n2)) from Bl.set_ (X1.out.trans_ hb2) (by show w.heap.size ≤ w.heap.size + 1 + 1; omega) _)
  obtain ⟨hc2, hf2⟩ := bcell hb2
  simp only [World.size_setCell] at hc2 hf2
  have i4 : w.heap.size < w2.heap.size := by omega
  have i5 : w.heap.size + 1 < w2.heap.size := by omega
  have i6 : w.heap.size + 1 + 1 < w2.heap.size := by omega
  clear ho2 hb2 O1
  go_wp2_with fail
  refine (toDOpS_any A3 n3 c3 O N3.out _ hm3 (K3.out.bl X2.out)).mono ?_
  rintro e w3 ⟨g3, rfl, ho3, hb3, -⟩
  have s3 := hb3.size
  simp only [World.size_setCell] at s3
  have h3 := own_gO ho3
  simp only [World.size_setCell] at h3
  have O3 := Lib.hid (show OwnO w3 w2.heap.size (.slice (some ⟨g3, 0, none⟩) n3 n3) O from by simpa only [World.size_setCell] using ho3)
  have O1c := Lib.hid ((O1b.out.setOther (b := w.heap.size + 1 + 1) (by omega) 1 (.slice (some ⟨g2, 0, none⟩) n2 n2)).bl hb3)
  have O2c := Lib.hid ((O2.out.setOther (b := w.heap.size + 1 + 1) (by omega) 1 (.slice (some ⟨g2, 0, none⟩) n2 n2)).bl hb3)
  have X3 := Lib.hid (X2.out.trans_ hb3)
  obtain ⟨hc3, hf3⟩ := bcell hb3
  simp only [World.size_setCell] at hc3 hf3
  have i7 : w.heap.size < w3.heap.size := by omega
  have i8 : w.heap.size + 1 < w3.heap.size := by omega
  have i9 : w.heap.size + 1 + 1 < w3.heap.size := by omega
  clear ho3 hb3 O1b O2
  go_wp2
  refine bodyPost_ret (v := .agg #[.slice (some ⟨g1, 0, none⟩) n1 n1, .slice (some ⟨g2, 0, none⟩) n2 n2, .slice (some ⟨g3, 0, none⟩) n3 n3]) (by simp [results, Try.results10, go_sem, hc1, hc2, hc3, i1, i2, i3, i4, i5, i6, i7, i8, i9]) rfl ?_
  refine ⟨g1, g2, g3, rfl, ⟨?_, ?_, ?_, by omega, by omega, by omega⟩, ?_⟩
  · exact ((((O1c.out.setOther (b := w.heap.size + 1 + 1) (by omega) 2 _).setOther (b := w.heap.size + 1) (by omega) 0 _).setOther (b := w.heap.size + 1) (by omega) 1 _).setOther (b := w.heap.size + 1) (by omega) 2 _).low (by omega)
  · exact ((((O2c.out.setOther (b := w.heap.size + 1 + 1) (by omega) 2 _).setOther (b := w.heap.size + 1) (by omega) 0 _).setOther (b := w.heap.size + 1) (by omega) 1 _).setOther (b := w.heap.size + 1) (by omega) 2 _).low (by omega)
  · exact ((((O3.out.setOther (b := w.heap.size + 1 + 1) (by omega) 2 _).setOther (b := w.heap.size + 1) (by omega) 0 _).setOther (b := w.heap.size + 1) (by omega) 1 _).setOther (b := w.heap.size + 1) (by omega) 2 _).low (by omega)
  · exact Bl.set_ (Bl.set_ (Bl.set_ (Bl.set_ X3.out (by show w.heap.size ≤ w.heap.size + 1 + 1; omega) _) (by show w.heap.size ≤ w.heap.size + 1; omega) _) (by show w.heap.size ≤ w.heap.size + 1; omega) _) (by show w.heap.size ≤ w.heap.size + 1; omega) _

end Go.Proofs.Ytgfmgmcpfefmkaa
