/-
  What is proved here: words on a list of lists of numbers that is memory of its own, each list, too; and the laws' small functions that mark it and look at the marks. No conditions beyond those that each theorem states.
-/
import Derived.Test.YtoffkpkpdnjlnaaWS
import Derived.Test.YtoffkpkpdnjlnaaRWK
set_option linter.unusedSimpArgs false
set_option linter.unusedVariables false
namespace Go.Proofs.Ytoffkpkpdnjlnaa
open Go.RowKit

/-- The head of a list: where it lies, how long it is, and how long it may be. -/
abbrev SlH := Option Addr × Nat × Nat
def slV (x : SlH) : Value := .slice x.1 x.2.1 x.2.2
theorem slV_own (x : SlH) : (slV x).ownBlock = blockOf x.1 := ownBlock_slice _ _ _
/-- pv owns the heads G of the lists R, and each of these owns its numbers, in blocks of which no two are the same. -/
structure RowsG (w : World) (B : Nat) (pv : Value) (G : List SlH) (R : List (List Int)) : Prop where
  own : Owns 96 1 w B pv G.length (G.map slV)
  len : G.length = R.length
  row : ∀ j (h : j < G.length) (h' : j < R.length), OwnN w B (slV G[j]) R[j] ∧ ∀ g, (slV G[j]).ownBlock = some g → pv.ownBlock ≠ some g
  apart : ∀ i j (hi : i < G.length) (hj : j < G.length), i ≠ j → ∀ g, (slV G[i]).ownBlock = some g → (slV G[j]).ownBlock ≠ some g
variable {w w' : World} {B : Nat} {pv pv' : Value} {G : List SlH} {R : List (List Int)}
theorem RowsG.bl (h : RowsG w B pv G R) (b : Bl w w') : RowsG w' B pv G R :=
  ⟨h.own.bl b, h.len, fun j h1 h2 => ⟨(h.row j h1 h2).1.bl b, (h.row j h1 h2).2⟩, h.apart⟩
theorem RowsG.low {B' : Nat} (h : RowsG w B' pv G R) (hB : B ≤ B') : RowsG w B pv G R :=
  ⟨h.own.low hB, h.len, fun j h1 h2 => ⟨(h.row j h1 h2).1.low hB, (h.row j h1 h2).2⟩, h.apart⟩
theorem RowsG.turn {S : Nat → Prop} (h : RowsG w B pv G R) (k : Turn S w w') (hS : ∀ g, B ≤ g → g < w.heap.size → ¬ S g) : RowsG w' B pv G R :=
  ⟨h.own.turn k (fun g hg => by have := Owns.lt h.own g hg; exact hS g this.1 this.2), h.len, fun j h1 h2 => ⟨by
    have h3 := (h.row j h1 h2).1
    exact Owns.turn h3 k (fun g hg => by have := Owns.lt h3 g hg; exact hS g this.1 this.2), (h.row j h1 h2).2⟩, h.apart⟩
theorem RowsG.nil_ (w : World) (B : Nat) (h : Owns 96 1 w B pv 0 []) : RowsG w B pv [] [] :=
  ⟨h, rfl, fun j h1 => absurd h1 (by simp), fun i j h1 => absurd h1 (by simp)⟩
theorem RowsG.lt (h : RowsG w B pv G R) {j : Nat} (hj : j < G.length) {g : Nat} (hg : (slV G[j]).ownBlock = some g) : B ≤ g ∧ g < w.heap.size :=
  Owns.lt (h.row j hj (by rw [← h.len]; exact hj)).1 g hg
/-- The head says how long its list is. -/
theorem RowsG.head (h : RowsG w B pv G R) {j : Nat} (hj : j < G.length) : (G[j]).2.1 = (R[j]'(by rw [← h.len]; exact hj)).length := by
  obtain ⟨A, c, e, -⟩ := OwnN.shape (h.row j hj (by rw [← h.len]; exact hj)).1
  unfold slV at e
  injection e
theorem RowsG.snoc {r : List Int} {x : SlH} {k : Nat} (h : RowsG w B pv G R) (hr : OwnN w B (slV x) r)
    (hne : ∀ g, (slV x).ownBlock = some g → pv.ownBlock ≠ some g ∧ ∀ j (h : j < G.length), (slV G[j]).ownBlock ≠ some g) (hk : k = G.length)
    (hown : w'.ownsRow B 96 1 pv' (k + 1) (G.map slV ++ [slV x])) (hg : w.grownBy w' pv.ownBlock) (hb : pv'.ownBlock = pv.ownBlock ∨ pv'.ownBlock = some w.heap.size) : RowsG w' B pv' (G ++ [x]) (R ++ [r]) := by
  subst hk
  have keep : ∀ (v : Value) (V : List Int), OwnN w B v V → (∀ g, v.ownBlock = some g → pv.ownBlock ≠ some g) → OwnN w' B v V ∧ ∀ g, v.ownBlock = some g → pv'.ownBlock ≠ some g := fun v V h1 h2 => by
    refine ⟨Owns.grown_ h1 hg (fun g e h => h2 g e h.symm), fun g e h => ?_⟩
    rcases hb with hb | hb
    · exact h2 g e (hb.symm.trans h)
    · have h3 := hb.symm.trans h
      have := Owns.lt h1 g e
      injection h3 with h3
      omega
  have hlen := h.len
  refine ⟨by rw [List.length_append, List.map_append]; exact hown, by simp [h.len], fun j h1 h2 => ?_, fun i j hi hj hij => ?_⟩
  · by_cases e : j < G.length
    · obtain ⟨a1, a2⟩ := h.row j e (by omega)
      have e1 : (R ++ [r])[j]'h2 = R[j]'(by omega) := List.getElem_append_left (by omega)
      have e2 : (G ++ [x])[j]'h1 = G[j] := List.getElem_append_left e
      rw [e1, e2]
      exact keep _ _ a1 a2
    · obtain rfl : j = G.length := by simp at h1; omega
      have e1 : (R ++ [r])[G.length]'h2 = r := by simp [h.len]
      have e2 : (G ++ [x])[G.length]'h1 = x := by simp
      rw [e1, e2]
      exact keep _ _ hr (fun g hg => (hne g hg).1)
  · intro g h1
    by_cases ei : i < G.length
    · have e1 : (G ++ [x])[i]'hi = G[i] := List.getElem_append_left ei
      rw [e1] at h1
      by_cases ej : j < G.length
      · have e2 : (G ++ [x])[j]'hj = G[j] := List.getElem_append_left ej
        rw [e2]
        exact h.apart i j ei ej hij g h1
      · obtain rfl : j = G.length := by simp at hj; omega
        have e2 : (G ++ [x])[G.length]'hj = x := by simp
        rw [e2]
        exact fun h2 => (hne g h2).2 i ei h1
    · obtain rfl : i = G.length := by simp at hi; omega
      have e1 : (G ++ [x])[G.length]'hi = x := by simp
      rw [e1] at h1
      have ej : j < G.length := by simp at hj; omega
      have e2 : (G ++ [x])[j]'hj = G[j] := List.getElem_append_left ej
      rw [e2]
      exact (hne g h1).2 j ej
/-- The heads lie at the front of a block. -/
theorem RowsG.cells {A : Option Addr} {n c : Nat} (h : RowsG w B (.slice A n c) G R) (h0 : 0 < G.length) : ∃ g, A = some ⟨g, 0, none⟩ ∧ B ≤ g ∧ g < w.heap.size ∧ ∀ j (hj : j < G.length), w.cell? ⟨g, j, none⟩ = some (slV G[j]) := by
  obtain ⟨A', c', e, -, -, -, hs⟩ := Owns.shape h.own
  injection e with e1 e2 e3
  subst e1
  obtain ⟨g, rfl, hB, hg, -, hc⟩ := hs h0
  exact ⟨g, rfl, hB, hg, fun j hj => by rw [hc j (by simpa using hj)]; simp⟩
theorem RowsG.slice (h : RowsG w B pv G R) : ∃ A c, pv = .slice A R.length c := by
  obtain ⟨A, c, e, -⟩ := Owns.shape h.own
  exact ⟨A, c, by rw [e, h.len]⟩
theorem RowsG.rowsAt {A : Option Addr} {n c : Nat} (h : RowsG w B (.slice A n c) G R) : RowsAt w B w.heap.size A R := fun h0 => by
  have hl := h.len
  obtain ⟨g, rfl, hB, hg, hc⟩ := h.cells (by omega)
  refine ⟨g, 0, rfl, ⟨hB, hg⟩, fun j hj => ?_⟩
  have hj' : j < G.length := by omega
  obtain ⟨A', c', e, -, h1, -, h3⟩ := OwnN.shape (h.row j hj' hj).1
  refine ⟨A', c', by rw [Nat.zero_add, hc j hj', e], h1, fun g' e' _ => (h3 g' e').1⟩

/-- A block of one of the lists. -/
def inG (G : List SlH) (i : Nat) : Prop := ∃ j, ∃ h : j < G.length, (slV G[j]).ownBlock = some i
/-- All lists of G are marked, one behind the other, from k on. -/
structure MarkG (w : World) (B : Nat) (A : Option Addr) (G : List SlH) (R : List (List Int)) (k : Int) : Prop where
  len : G.length = R.length
  cell : 0 < G.length → ∃ g, A = some ⟨g, 0, none⟩ ∧ B ≤ g ∧ g < w.heap.size ∧ ∀ j (hj : j < G.length), w.cell? ⟨g, j, none⟩ = some (slV G[j])
  row : ∀ j (h : j < G.length) (h' : j < R.length), (G[j]).2.1 = R[j].length ∧ Marks w (G[j]).1 R[j].length (k + (sumL (R.take j) : Nat)) ∧ ∀ g, blockOf (G[j]).1 = some g → B ≤ g ∧ g < w.heap.size
theorem Marks.turn {A : Option Addr} {n : Nat} {k : Int} {S : Nat → Prop} (h : Marks w A n k) (t : Turn S w w') (hS : ∀ g, blockOf A = some g → ¬ S g) : Marks w' A n k := fun h0 => by
  obtain ⟨g, off, e, hg, hc⟩ := h h0
  exact ⟨g, off, e, Nat.lt_of_lt_of_le hg t.size, fun j hj => by rw [t.cell hg (hS g (by rw [e]; rfl))]; exact hc j hj⟩
theorem MarkG.turn {A : Option Addr} {k : Int} {S : Nat → Prop} (h : MarkG w B A G R k) (t : Turn S w w') (hS : ∀ g, B ≤ g → g < w.heap.size → ¬ S g) : MarkG w' B A G R k :=
  ⟨h.len, fun h0 => by
    obtain ⟨g, e, hB, hg, hc⟩ := h.cell h0
    exact ⟨g, e, hB, Nat.lt_of_lt_of_le hg t.size, fun j hj => by rw [t.cell hg (hS g hB hg)]; exact hc j hj⟩, fun j h1 h2 => by
    obtain ⟨a1, a2, a3⟩ := h.row j h1 h2
    exact ⟨a1, a2.turn t (fun g e => hS g (a3 g e).1 (a3 g e).2), fun g e => ⟨(a3 g e).1, Nat.lt_of_lt_of_le (a3 g e).2 t.size⟩⟩⟩
theorem MarkG.bl {A : Option Addr} {k : Int} (h : MarkG w B A G R k) (b : Bl w w') : MarkG w' B A G R k := h.turn (Turn.of_bl (S := fun _ => False) b) (fun _ _ _ h => h)
theorem sumL_take_le (R : List (List Int)) (j : Nat) : sumL (R.take j) ≤ sumL R := by
  conv => rhs; rw [← List.take_append_drop j R]
  generalize R.take j = X
  generalize R.drop j = Y
  induction X with
  | nil => simp [sumL]
  | cons x X ih => simp [sumL]; omega
theorem sumL_row {R : List (List Int)} {j : Nat} (h : j < R.length) : sumL (R.take j) + R[j].length ≤ sumL R := by
  rw [← sumL_take h]; exact sumL_take_le R (j + 1)

set_option maxRecDepth 100000 in
set_option maxHeartbeats 2000000 in
theorem markRowS_any (A : Option Addr) (n c : Nat) (k : Int) (hn : n = G.length) (hm : n ≤ 1048576) (hs : sumL R ≤ 1048576) (hk0 : 0 ≤ k) (hk1 : k ≤ 1000000000) (hG : RowsG w B (.slice A n c) G R) :
    Calls Try.prog 43 #[.slice A n c, .int .i64 k] w fun e w' => e = .returned (.int .i64 (k + (sumL R : Nat))) ∧ MarkG w' B A G R k ∧ Turn (inG G) w w' := by
  have HG := Lib.hid hG
  have HN := Lib.hid hn
  have HL := Lib.hid hG.len
  have HS := Lib.hid hs
  clear hG hn hs
  go_enter Try.func43, Try.ntmps43
  go_wp2
  go_loopw [1, 5] (fun q i wr => ∃ j : Nat, j ≤ n ∧ i = .int .i64 j ∧ q = .int .i64 (k + (sumL (R.take j) : Nat)) ∧ Hid (Turn (inG G) w wr ∧ (∀ t (h : t < G.length) (h' : t < R.length), t < j → Marks wr (G[t]).1 R[t].length (k + (sumL (R.take t) : Nat))) ∧ (∀ t (h : t < G.length) (h' : t < R.length), j ≤ t → RowsW 2 1 wr (G[t]).1 R[t].length))) (fun _ i _ => n - (intOf i).toNat)
  case atStart =>
    refine ⟨0, by omega, rfl, by simp [sumL], Lib.hid ⟨Turn.refl _ _, fun t _ _ h => absurd h (by omega), fun t h h' _ => ?_⟩⟩
    obtain ⟨A', c', e, -, -, h2, -⟩ := OwnN.shape (HG.out.row t h h').1
    unfold slV at e
    injection e with e1 e2 e3
    rw [e1]
    exact h2
  case round =>
    obtain ⟨j, hj, rfl, rfl, HI⟩ := hrel
    by_cases hlt : j < n
    · have hjG : j < G.length := by have := HN.out; omega
      have hjR : j < R.length := by have := HN.out; have := HL.out; omega
      obtain ⟨g, rfl, hB, hg, hc⟩ := HG.out.cells (by omega)
      have p1 := hc j hjG
      have ST := Lib.hid (sumL_take hjR)
      have hsr := sumL_row hjR
      have hsm := HS.out
      rw [← HI.out.1.cell hg (fun ⟨t, ht, e⟩ => (HG.out.row t ht (by have := HL.out; omega)).2 g e rfl)] at p1
      have hhd := HG.out.head hjG
      have hrw := HI.out.2.2 j hjG hjR (Nat.le_refl _)
      have hlo := fun g' => HG.out.lt hjG (g := g')
      have hap := fun t ht hne => HG.out.apart j t hjG ht hne
      have GJ : ∃ x, x = G[j] := ⟨_, rfl⟩
      obtain ⟨⟨Aj, nj, cj⟩, hx⟩ := GJ
      have HX := Lib.hid hx
      rw [← hx] at p1 hhd hrw hlo hap
      simp only [slV] at p1
      simp only at hhd hrw
      subst hhd
      clear hx hc
      have AP := Lib.hid hap
      have RW := Lib.hid hrw
      clear hap hrw hlo
      obtain ⟨nj, hnj⟩ : ∃ m, m = R[j].length := ⟨_, rfl⟩
      rw [← hnj] at p1 hsr ST RW
      obtain ⟨q, hq⟩ : ∃ q, q = k + ((sumL (R.take j) : Nat) : Int) := ⟨_, rfl⟩
      rw [← hq]
      have hqb : 0 ≤ q ∧ q ≤ 1000000000 + 1048576 := by omega
      have HQ := Lib.hid hq
      have HNJ := Lib.hid hnj
      have hnb : nj ≤ 1048576 := by omega
      clear hq hnj hsr hsm
      have i0 : (0 : Int) ≤ (j : Int) := by omega
      have i1 : (j : Int) < (n : Int) := by omega
      go_wp2_with fail
      refine (markN_any Aj nj cj q _ hnb hqb.1 (by omega) RW.out).mono ?_
      rintro e w3 ⟨rfl, hm3, hg3, hr3⟩
      have M3 := Lib.hid hm3
      have G3 := Lib.hid hg3
      clear hm3 hg3 hr3 p1
      go_wp2
      go_roundw
      case rel =>
        refine ⟨j + 1, by omega, by go_num, by rw [show q + (nj : Int) = k + ((sumL (R.take (j + 1)) : Nat) : Int) from by have h1 := ST.out; have h2 := HQ.out; omega], Lib.hid ⟨?_, fun t h h' ht => ?_, fun t h h' ht => ?_⟩⟩
        · exact HI.out.1.trans (Turn.of_grown (S := inG G) G3.out (fun g' e => ⟨j, hjG, by rw [← HX.out, slV_own]; exact e⟩)) (fun _ _ h => h)
        · rcases Nat.lt_or_ge t j with h1 | h1
          · exact Marks.grown_ (HI.out.2.1 t h h' h1) G3.out (fun g' e1 e2 => AP.out t h (by omega) g' (by rw [slV_own]; exact e2.symm) (by rw [slV_own]; exact e1))
          · obtain rfl : t = j := by omega
            rw [← HX.out, ← HNJ.out, ← HQ.out]
            exact M3.out
        · exact RowsW.grown_ (HI.out.2.2 t h h' (by omega)) G3.out (fun g' e1 e2 => AP.out t h (by omega) g' (by rw [slV_own]; exact e2.symm) (by rw [slV_own]; exact e1))
      case measure => simp [intOf]; omega
    · have hjn : j = n := by omega
      subst hjn
      have HR := Lib.hid (show R.take j = R from List.take_of_length_le (by have := HN.out; have := HL.out; omega))
      go_wp2
      go_ret
      have t := HI.out.1
      refine ⟨ret_int (by rw [HR.out]), ⟨HG.out.len, fun h0 => ?_, fun t' h1 h2 => ?_⟩, t⟩
      · obtain ⟨g, e, hB, hg, hc⟩ := HG.out.cells h0
        refine ⟨g, e, hB, Nat.lt_of_lt_of_le hg t.size, fun i hi => ?_⟩
        rw [t.cell hg (fun ⟨x, hx, e2⟩ => (HG.out.row x hx (by have := HL.out; omega)).2 g e2 (by rw [e]; rfl))]
        exact hc i hi
      · exact ⟨HG.out.head h1, HI.out.2.1 t' h1 h2 (by have := HN.out; omega), fun g e => by
          have := HG.out.lt h1 (g := g) (by rw [slV_own]; exact e)
          exact ⟨this.1, Nat.lt_of_lt_of_le this.2 t.size⟩⟩

set_option maxRecDepth 100000 in
set_option maxHeartbeats 2000000 in
theorem heldRowS_any (A : Option Addr) (n c : Nat) (k : Int) (hn : n = G.length) (hm : n ≤ 1048576) (hs : sumL R ≤ 1048576) (hk0 : 0 ≤ k) (hk1 : k ≤ 1000000000) (hG : MarkG w B A G R k) :
    Calls Try.prog 44 #[.slice A n c, .int .i64 k] w fun e w' => e = .returned (.int .i64 (k + (sumL R : Nat))) ∧ w = w' := by
  have HG := Lib.hid hG
  have HN := Lib.hid hn
  have HL := Lib.hid hG.len
  have HS := Lib.hid hs
  clear hG hn hs
  go_enter Try.func44, Try.ntmps44
  go_wp2
  go_loopw [1, 5] (fun q i wr => ∃ j : Nat, j ≤ n ∧ i = .int .i64 j ∧ q = .int .i64 (k + (sumL (R.take j) : Nat)) ∧ wr = w) (fun _ i _ => n - (intOf i).toNat)
  case atStart => exact ⟨0, by omega, rfl, by simp [sumL], rfl⟩
  case round =>
    obtain ⟨j, hj, rfl, rfl, rfl⟩ := hrel
    by_cases hlt : j < n
    · have hjG : j < G.length := by have := HN.out; omega
      have hjR : j < R.length := by have := HN.out; have := HL.out; omega
      obtain ⟨g, rfl, hB, hg, hc⟩ := HG.out.cell (by omega)
      have p1 := hc j hjG
      have ST := Lib.hid (sumL_take hjR)
      have hsr := sumL_row hjR
      have hsm := HS.out
      obtain ⟨hhd, hrw, -⟩ := HG.out.row j hjG hjR
      have GJ : ∃ x, x = G[j] := ⟨_, rfl⟩
      obtain ⟨⟨Aj, nj, cj⟩, hx⟩ := GJ
      rw [← hx] at p1 hhd hrw
      simp only [slV] at p1
      simp only at hhd hrw
      subst hhd
      clear hx hc
      have RW := Lib.hid hrw
      clear hrw
      obtain ⟨nj, hnj⟩ : ∃ m, m = R[j].length := ⟨_, rfl⟩
      rw [← hnj] at p1 hsr ST RW
      obtain ⟨q, hq⟩ : ∃ q, q = k + ((sumL (R.take j) : Nat) : Int) := ⟨_, rfl⟩
      rw [← hq] at RW ⊢
      have hqb : 0 ≤ q ∧ q ≤ 1000000000 + 1048576 := by omega
      have HQ := Lib.hid hq
      have hnb : nj ≤ 1048576 := by omega
      have b4 : decide (q + (nj : Int) < 0) = false := by simp; omega
      clear hq hnj hsr hsm
      have i0 : (0 : Int) ≤ (j : Int) := by omega
      have i1 : (j : Int) < (n : Int) := by omega
      go_wp2_with fail
      refine (heldInt64S_any Aj nj cj q _ hnb hqb.1 (by omega) RW.out).mono ?_
      rintro e w3 ⟨rfl, rfl⟩
      go_wp2
      go_roundw
      case rel => exact ⟨j + 1, by omega, by go_num, by rw [show q + (nj : Int) = k + ((sumL (R.take (j + 1)) : Nat) : Int) from by have h1 := ST.out; have h2 := HQ.out; omega], by trivial⟩
      case measure => simp [intOf]; omega
    · have hjn : j = n := by omega
      subst hjn
      have HR := Lib.hid (show R.take j = R from List.take_of_length_le (by have := HN.out; have := HL.out; omega))
      go_wp2
      go_ret
      exact ⟨ret_int (by rw [HR.out]), rfl⟩

end Go.Proofs.Ytoffkpkpdnjlnaa
