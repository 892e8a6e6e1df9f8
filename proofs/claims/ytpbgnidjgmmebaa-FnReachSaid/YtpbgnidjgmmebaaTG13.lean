/-
  What is proved here: the laws' small functions on lists of rows: sizes, copies, comparisons; plain words on the rows of all distances; the reaches of a graph, told; plain facts on lists without two alike, on the nearest of some nodes, and on the first of the greatest; the small functions of the code and of the model that ask whether numbers are nodes, no two alike; the model's ReachOf; which numbers are right as reaches, told; the model's ReachOk; plain facts on the reaches as the law tells them: from each node to each, by way of each node of the shortest paths. No conditions beyond those that each theorem states.
-/
import Derived.Test.YtpbgnidjgmmebaaTG12
import Derived.Outline
import Derived.Test.YtpbgnidjgmmebaaTG11
import Derived.Test.YtpbgnidjgmmebaaTG10
import Derived.Test.YtpbgnidjgmmebaaTG04
import Derived.Test.YtpbgnidjgmmebaaTG08
import Derived.Lib.MinMax
set_option linter.unusedSimpArgs false
set_option linter.unusedVariables false
namespace Go.Proofs.Ytpbgnidjgmmebaa
open Go.RowKit






theorem infoRow : (Try.prog.info? 113).map (fun i => (i.zero, i.size, i.bytes)) = some (some (.agg #[.slice none 0 0]), 1, 24) := by kernel_rfl




end Go.Proofs.Ytpbgnidjgmmebaa

set_option linter.unusedSimpArgs false
set_option linter.unusedVariables false
namespace Go.Proofs.Ytpbgnidjgmmebaa
open Go.RowKit

/-- The rows of all distances. -/
def rowsK (q : Nat) (L : List Arc3) (k : Nat) : List (List Int) := (List.range k).map fun (j : Nat) => distL q L (j : Int)
theorem rowsK_len (q : Nat) (L : List Arc3) (k : Nat) : (rowsK q L k).length = k := by simp [rowsK]
theorem rowsK_at {q : Nat} {L : List Arc3} {k j : Nat} (h : j < (rowsK q L k).length) : (rowsK q L k)[j] = distL q L (j : Int) := by simp [rowsK]
theorem rowsK_succ (q : Nat) (L : List Arc3) (k : Nat) : rowsK q L (k + 1) = rowsK q L k ++ [distL q L (k : Int)] := by simp [rowsK, List.range_succ]

end Go.Proofs.Ytpbgnidjgmmebaa

set_option linter.unusedSimpArgs false
set_option linter.unusedVariables false
namespace Go.Proofs.Ytpbgnidjgmmebaa

/-- The reaches of a right graph; none of another one. -/
def reachL (N : Int) (L : List Arc3) : List Int := if okB N L = true then reachS N.toNat (allS N L N.toNat) else []
theorem reachL_len (N : Int) (L : List Arc3) : (reachL N L).length ≤ 1048576 := by
  unfold reachL
  split
  · rename_i h
    have := (okB_elim h).2.1
    rw [reachS_len]
    omega
  · simp

end Go.Proofs.Ytpbgnidjgmmebaa

set_option linter.unusedSimpArgs false
set_option linter.unusedVariables false
namespace Go.Proofs.Ytpbgnidjgmmebaa







end Go.Proofs.Ytpbgnidjgmmebaa

set_option linter.unusedSimpArgs false
set_option linter.unusedVariables false
namespace Go.Proofs.Ytpbgnidjgmmebaa
open Go.RowKit




end Go.Proofs.Ytpbgnidjgmmebaa

set_option linter.unusedSimpArgs false
set_option linter.unusedVariables false
namespace Go.Proofs.Ytpbgnidjgmmebaa
open Go.RowKit

/-- What a double loop has seen of the shortest paths by way of a node. -/
def seenST (N : Int) (L : List Arc3) (v : Int) (q s t : Nat) (x : Int) : Prop :=
  ∃ s' t' : Nat, s' < q ∧ t' < q ∧ (s' < s ∨ (s' = s ∧ t' < t)) ∧ 0 ≤ dAt (distL N L s') v ∧ 0 ≤ dAt (distL N L v) t' ∧ dAt (distL N L s') v + dAt (distL N L v) t' = dAt (distL N L s') t' ∧ x = min (dAt (distL N L s') v) (dAt (distL N L v) t')
section
variable {N : Int} {L : List Arc3} {v : Int} {q s t : Nat} {m : Int}
theorem seen_start : IsMax (seenST N L v q 0 0) 0 := ⟨.inl rfl, by omega, by
  rintro x ⟨s', t', h1, h2, h3, -⟩
  omega⟩
theorem seen_row (h : IsMax (seenST N L v q s q) m) : IsMax (seenST N L v q (s + 1) 0) m := h.of fun x => by
  constructor
  · rintro ⟨s', t', h1, h2, h3, h4⟩
    exact ⟨s', t', h1, h2, by omega, h4⟩
  · rintro ⟨s', t', h1, h2, h3, h4⟩
    exact ⟨s', t', h1, h2, by omega, h4⟩
theorem seen_on (hs : s < q) (ht : t < q) {a b c : Int} (ha : dAt (distL N L s) v = a) (hb : dAt (distL N L v) t = b) (hc : dAt (distL N L s) t = c) (h1 : 0 ≤ a) (h2 : 0 ≤ b) (h3 : a + b = c) (h : IsMax (seenST N L v q s t) m) : IsMax (seenST N L v q s (t + 1)) (max m (min a b)) := by
  obtain ⟨k1, k2, k3⟩ := h
  subst ha hb hc
  refine ⟨?_, by omega, ?_⟩
  · rcases Int.le_total m (min (dAt (distL N L s) v) (dAt (distL N L v) t)) with hle | hle
    · rw [Int.max_eq_right hle]
      exact .inr ⟨s, t, hs, ht, by omega, h1, h2, h3, rfl⟩
    · rw [Int.max_eq_left hle]
      rcases k1 with k1 | ⟨s', t', a1, a2, a3, a4⟩
      · exact .inl k1
      · exact .inr ⟨s', t', a1, a2, by omega, a4⟩
  · rintro x ⟨s', t', a1, a2, a3, a4, a5, a6, rfl⟩
    by_cases e : s' = s ∧ t' = t
    · obtain ⟨rfl, rfl⟩ := e
      omega
    · have := k3 _ ⟨s', t', a1, a2, by omega, a4, a5, a6, rfl⟩
      omega
theorem seen_off {a b c : Int} (ha : dAt (distL N L s) v = a) (hb : dAt (distL N L v) t = b) (hc : dAt (distL N L s) t = c) (hn : ¬ (0 ≤ a ∧ 0 ≤ b ∧ a + b = c)) (h : IsMax (seenST N L v q s t) m) : IsMax (seenST N L v q s (t + 1)) m := by
  subst ha hb hc
  refine h.of fun x => ?_
  constructor
  · rintro ⟨s', t', a1, a2, a3, a4⟩
    exact ⟨s', t', a1, a2, by omega, a4⟩
  · rintro ⟨s', t', a1, a2, a3, a4, a5, a6, a7⟩
    by_cases e : s' = s ∧ t' = t
    · obtain ⟨rfl, rfl⟩ := e
      exact absurd ⟨a4, a5, a6⟩ hn
    · exact ⟨s', t', a1, a2, by omega, a4, a5, a6, a7⟩
end
theorem seen_all {q v : Nat} {L : List Arc3} {m : Int} (ho : okB q L = true) (hv : v < q) (h : IsMax (seenST q L (v : Int) q q 0) m) : m = (reachS q (allS q L q)).getD v 0 := by
  have h1 := reach_max ho (v := v) (by omega)
  simp only [Int.toNat_natCast] at h1
  refine (h.of fun x => ?_).uniq h1
  constructor
  · rintro ⟨s', t', a1, a2, a3, a4⟩
    exact ⟨s', t', by simpa using a1, by simpa using a2, a4⟩
  · rintro ⟨s', t', a1, a2, a4⟩
    simp only [Int.toNat_natCast] at a1 a2
    exact ⟨s', t', a1, a2, .inl a1, a4⟩

/-- A list of rows of numbers that grows. -/
def RowsOf (w : World) (B : Nat) (pv : Value) (R : List (List Int)) : Prop :=
  ∃ C : List Value, Owns 113 1 w B pv R.length C ∧ ∀ j (h : j < R.length), ∃ A' c', C[j]? = some (.slice A' R[j].length c') ∧ IntsAt w w.heap.size A' R[j] ∧ ∀ g, blockOf A' = some g → g < w.heap.size ∧ pv.ownBlock ≠ some g
theorem RowsOf.bl {w w' : World} {B : Nat} {pv : Value} {R : List (List Int)} (h : RowsOf w B pv R) (b : Bl w w') : RowsOf w' B pv R := by
  obtain ⟨C, h1, h2⟩ := h
  refine ⟨C, h1.bl b, fun j hj => ?_⟩
  obtain ⟨A', c', a1, a2, a3⟩ := h2 j hj
  exact ⟨A', c', a1, a2.bl b, fun g hg => ⟨Nat.lt_of_lt_of_le (a3 g hg).1 b.size, (a3 g hg).2⟩⟩
theorem RowsOf.snoc {w w' : World} {B k : Nat} {pv pv' : Value} {R : List (List Int)} {r : List Int} {C : List Value} {A : Option Addr} {l c : Nat}
    (hC : ∀ j (h : j < R.length), ∃ A' c', C[j]? = some (.slice A' R[j].length c') ∧ IntsAt w w.heap.size A' R[j] ∧ ∀ g, blockOf A' = some g → g < w.heap.size ∧ pv.ownBlock ≠ some g)
    (hl : C.length = R.length) (hr : IntsAt w w.heap.size A r) (hne : ∀ g, blockOf A = some g → g < w.heap.size ∧ pv.ownBlock ≠ some g) (hk : k = R.length) (hrl : l = r.length)
    (hown : w'.ownsRow B 113 1 pv' (k + 1) (C ++ [.slice A l c])) (hg : w.grownBy w' pv.ownBlock) (hb : pv'.ownBlock = pv.ownBlock ∨ pv'.ownBlock = some w.heap.size) : RowsOf w' B pv' (R ++ [r]) := by
  subst hk hrl
  refine ⟨C ++ [.slice A r.length c], by rw [List.length_append]; exact hown, fun j hj => ?_⟩
  have keep : ∀ (A' : Option Addr) (V : List Int), IntsAt w w.heap.size A' V → (∀ g, blockOf A' = some g → g < w.heap.size ∧ pv.ownBlock ≠ some g) → IntsAt w' w'.heap.size A' V ∧ ∀ g, blockOf A' = some g → g < w'.heap.size ∧ pv'.ownBlock ≠ some g := fun A' V h1 h2 => by
    refine ⟨(h1.grown_ (Nat.le_refl _) hg (fun g e _ h => (h2 g e).2 h.symm)).more hg.size, fun g e => ⟨Nat.lt_of_lt_of_le (h2 g e).1 hg.size, fun h => ?_⟩⟩
    rcases hb with hb | hb
    · exact (h2 g e).2 (hb.symm.trans h)
    · have h3 := hb.symm.trans h
      have := (h2 g e).1
      injection h3 with h3
      omega
  by_cases e : j < R.length
  · obtain ⟨A', c', a1, a2, a3⟩ := hC j e
    obtain ⟨k1, k2⟩ := keep A' _ a2 a3
    have e1 : (R ++ [r])[j]'hj = R[j] := List.getElem_append_left e
    rw [e1]
    exact ⟨A', c', by rw [List.getElem?_append_left (by omega)]; exact a1, k1, k2⟩
  · have e0 : j = R.length := by simp at hj; omega
    subst e0
    obtain ⟨k1, k2⟩ := keep A _ hr hne
    have e1 : (R ++ [r])[R.length]'hj = r := by simp
    rw [e1]
    exact ⟨A, c, by rw [List.getElem?_append_right (by omega), hl]; simp, k1, k2⟩
theorem RowsOf.row {w : World} {B : Nat} {pv : Value} {R : List (List Int)} (h : RowsOf w B pv R) (hp : 0 < R.length) :
    ∃ g c, pv = .slice (some ⟨g, 0, none⟩) R.length c ∧ g < w.heap.size ∧ ∀ j (hj : j < R.length), ∃ A' c', w.cell? ⟨g, j, none⟩ = some (.slice A' R[j].length c') ∧ IntsAt w w.heap.size A' R[j] := by
  obtain ⟨C, h1, h2⟩ := h
  have hl := h1.len
  obtain ⟨A, c, rfl, -, -, -, hs⟩ := Owns.shape h1
  obtain ⟨g, rfl, -, hg, -, hc⟩ := hs hp
  refine ⟨g, c, rfl, hg, fun j hj => ?_⟩
  obtain ⟨A', c', a1, a2, -⟩ := h2 j hj
  have hj' : j < C.length := by omega
  refine ⟨A', c', (hc j hj').trans ?_, a2⟩
  rw [List.getElem?_eq_getElem hj'] at a1
  exact a1
set_option maxRecDepth 100000 in
set_option maxHeartbeats 4000000 in
theorem l5Reach_any (q : Nat) (A : Option Addr) (n c : Nat) (L : List Arc3) (hn : n = L.length) (ho : okB (q : Int) L = true) (w : World) (hm : n ≤ 1048576) (H1 : ArcsAt w w.heap.size A L) :
    Calls Try.prog 87 #[.agg #[.int .i64 (q : Int), .slice A n c]] w (NumsMade (reachS q (allS q L q)) w) := by
  obtain ⟨i0, hi, hz0, hz1, hz2⟩ := info_parts infoRow
  have I0 := Lib.hid hi
  have I1 := Lib.hid hz0
  have I2 := Lib.hid hz1
  have I3 := Lib.hid hz2
  obtain ⟨j0, hj, hy0, hy1, hy2⟩ := info_parts infoInt
  have J0 := Lib.hid hj
  have J1 := Lib.hid hy0
  have J2 := Lib.hid hy1
  have J3 := Lib.hid hy2
  have K1 := Lib.hid H1
  have HN := Lib.hid hn
  have HO := Lib.hid ho
  have hN1 := (okB_elim ho).1
  have hN24 := (okB_elim ho).2.1
  clear H1 hn ho hi hz0 hz1 hz2 hj hy0 hy1 hy2
  go_enter Try.func87, Try.ntmps87
  go_wp2_with fail
  go_loopw [3, 4] (fun pv i wr => ∃ k : Nat, k ≤ q ∧ i = .int .i64 k ∧ RowsOf wr (w.heap.size + 1) pv (rowsK q L k) ∧ Bl (w.alloc (.cells #[.int .i64 (q : Int), .slice A n c] 26)) wr) (fun _ i _ => q - (intOf i).toNat)
  case atStart =>
    refine ⟨0, by omega, rfl, ⟨[], ?_, fun j hj => absurd hj (by simp [rowsK])⟩, Bl.alloc_ (Bl.refl _) _⟩
    have h := World.ownsRow_made (base := w.heap.size + 1) (e := 113) (size := 1) (w.alloc (.cells #[.int .i64 (q : Int), .slice A n c] 26)) #[] 0 (by simp) (by unfold maxLen; omega) rfl
    rw [World.size_alloc] at h
    exact h
  case round =>
    obtain ⟨k, hk, rfl, hrows, hbl⟩ := hrel
    have RR := Lib.hid hrows
    have BB := Lib.hid hbl
    obtain ⟨q0, q1⟩ := box2 hbl
    have hsz : w.heap.size < wr.heap.size := by have := hbl.size; simp at this; omega
    clear hrows hbl
    by_cases hlt : k < q
    · have hk0 : (0 : Int) ≤ (k : Int) := by omega
      have hk1 : (k : Int) < (q : Int) := by omega
      go_wp2_with fail
      refine (l3Dist_any q k A n c L HN.out HO.out hk0 hk1 _ hm (K1.out.bl (((Bl.alloc_ (Bl.refl w) _).trans_ BB.out).trans_ (by repeat' (first | exact Bl.refl _ | with_reducible assumption | with_reducible refine Bl.drew_ ?_ | with_reducible refine Bl.drewN_ ?_ _ | with_reducible refine Bl.alloc_ ?_ _ | with_reducible refine Bl.trans_ ?_ (by assumption) | with_reducible refine Bl.trans_ ?_ (And.left (by assumption))))))).mono ?_
      rintro e w4 ⟨v4, rfl, hv4, hb4⟩
      have hl : (distL q L k).length = q := by rw [distL_len HO.out hk0 hk1]; simp
      obtain ⟨A5, c5, rfl, hc5, hi5, -, hl5⟩ := OwnN.shape hv4
      obtain ⟨C, hC1, hC2⟩ := RR.out.bl (show Bl wr w4 from (by repeat' (first | exact Bl.refl _ | with_reducible assumption | with_reducible refine Bl.drew_ ?_ | with_reducible refine Bl.drewN_ ?_ _ | with_reducible refine Bl.alloc_ ?_ _ | with_reducible refine Bl.trans_ ?_ (by assumption) | with_reducible refine Bl.trans_ ?_ (And.left (by assumption)))))
      rw [rowsK_len] at hC1
      have OC := Lib.hid hC1
      have OC2 := Lib.hid hC2
      have HI := Lib.hid hi5
      have HL5 := Lib.hid hl5
      have B4 := Lib.hid (show Bl wr w4 from (by repeat' (first | exact Bl.refl _ | with_reducible assumption | with_reducible refine Bl.drew_ ?_ | with_reducible refine Bl.drewN_ ?_ _ | with_reducible refine Bl.alloc_ ?_ _ | with_reducible refine Bl.trans_ ?_ (by assumption) | with_reducible refine Bl.trans_ ?_ (And.left (by assumption)))))
      rw [hl]
      have HLL := Lib.hid hl
      have s4 := B4.out.size
      clear hC1 hC2 hv4 hi5 hl5 hl hb4 q0 q1
      go_wp2_with (at_builtin; refine wpList_append_any _ rfl (.tmp 19) (.tmp 24) _ rfl (w.heap.size + 1) 113 i0 _ 1 24 Try.underlying111 I0.out I1.out I2.out I3.out rfl (by decide) _ k C rfl (World.ownsRow.alloc OC.out _) (w4.heap.size + 1) (some ⟨w4.heap.size, 0, none⟩) 1 1 [.slice A5 q c5] rfl ?c0 (by simp [Value.oneCell']) ?c3 ?c4 ?c5 ?_)
      case c0 =>
        refine ⟨rfl, fun _ => ⟨_, rfl, by show w4.heap.size < w4.heap.size + 1; omega, fun x u hj => ?_⟩⟩
        match x, hj with
        | 0, hj => simp at hj; subst hj; simp [Addr.add, go_sem]
        | (x + 1), hj => simp at hj
      case c3 => unfold maxLen; omega
      case c4 => omega
      case c5 => simp; omega
      intro v' w8 hown' hgrow hwh
      have BA : Bl w4 (w4.alloc (.cells #[.slice A5 q c5] 113)) := Bl.alloc_ (Bl.refl _) _
      have hOwnlt := Owns.lt OC.out
      have R8 := Lib.hid (RowsOf.snoc (R := rowsK q L k) (r := distL q L k) (C := C) (A := A5) (l := q) (c := c5) (k := k)
        (fun j hj => by
          obtain ⟨A', c', a1, a2, a3⟩ := OC2.out j hj
          exact ⟨A', c', a1, a2.bl BA, fun g hg => ⟨Nat.lt_of_lt_of_le (a3 g hg).1 BA.size, (a3 g hg).2⟩⟩)
        (by rw [OC.out.len, rowsK_len, Nat.mul_one]) (HI.out.bl BA) (fun g hg => ⟨Nat.lt_of_lt_of_le (HL5.out g hg).2 BA.size, fun h => by
          have h1 := HL5.out g hg
          obtain ⟨C9, k1, -⟩ := RR.out
          have h2 := Owns.lt k1 g h
          try simp at h1
          omega⟩) (rowsK_len q L k).symm HLL.out.symm hown' hgrow (by simpa using hwh))
      rw [← rowsK_succ] at R8
      have B8 := Lib.hid (show Bl (w.alloc (.cells #[.int .i64 (q : Int), .slice A n c] 26)) w8 from ((BB.out.trans_ B4.out).trans_ BA).grown_ hgrow (fun g hg => by have := hOwnlt g hg; simp; omega))
      clear hown' hgrow hwh BA hOwnlt
      go_wp2
      go_roundw
      case rel => exact ⟨k + 1, by omega, by go_num, R8.out, B8.out⟩
      case measure => simp [intOf]; omega
    · obtain rfl : k = q := by omega
      obtain ⟨w2, hw2⟩ : ∃ w2, w2 = wr := ⟨_, rfl⟩
      subst hw2
      have RF := Lib.hid (RR.out.row (by rw [rowsK_len]; omega))
      clear RR
      have ORD := Lib.hid (show Bl w w2 from (Bl.alloc_ (Bl.refl w) _).trans_ BB.out)
      have hRS := reachS_len k (allS (k : Int) L k)
      obtain ⟨g, cg, rfl, hgl, hrow⟩ := RF.out
      rw [rowsK_len]
      have HR := Lib.hid (show ∀ (j v : Nat), j < k → v < k → ∃ (g' o' c' : Nat), w2.cell? ⟨g, j, none⟩ = some (.slice (some ⟨g', o', none⟩) k c') ∧ g' < w2.heap.size ∧ w2.cell? ⟨g', o' + v, none⟩ = some (.int .i64 (dAt (distL k L (j : Int)) (v : Int))) from fun j v hj hv => by
        obtain ⟨A', c', a1, a2⟩ := hrow j (by rw [rowsK_len]; exact hj)
        rw [rowsK_at] at a1 a2
        have hl : (distL k L (j : Int)).length = k := by rw [distL_len HO.out (by omega) (by omega)]; simp
        rw [hl] at a1
        obtain ⟨g', o', rfl, hg', hc'⟩ := a2.cell (by omega)
        refine ⟨g', o', c', a1, hg', ?_⟩
        have := hc' v (by omega)
        rw [this, dAt_at (by omega)])
      have HTOP := Lib.hid (show ∀ (j : Nat) (v : Int), j < k → dAt (distL k L (j : Int)) v ≤ 23000 from fun j v hj => (distL_is (arcsIn_of_ok HO.out) hN24 (show (0 : Int) ≤ (j : Int) by omega) (by omega)).top (arcsIn_of_ok HO.out) hN24 (by omega) (by omega) v)
      clear RF hrow K1
      go_wp2_with fail
      have O0 := Lib.hid (show OwnN (w2.alloc (.cells #[] 2)) w2.heap.size (.slice (some ⟨w2.heap.size, 0, none⟩) 0 0) ((reachS k (allS k L k)).take 0) from by
        have h := World.ownsRow_made (base := w2.heap.size) (e := 2) (size := 1) w2 #[] 0 (by simp) (by unfold maxLen; omega) rfl
        simpa [OwnN, Owns, csI] using h)
      clear q0 q1
      go_loopw [5, 6] (fun ov i wx => ∃ v : Nat, v ≤ k ∧ i = .int .i64 v ∧ OwnN wx w2.heap.size ov ((reachS k (allS k L k)).take v) ∧ Bl w2 wx) (fun _ i _ => k - (intOf i).toNat)
      case atStart => exact ⟨0, by omega, rfl, O0.out, Bl.alloc_ (Bl.refl _) _⟩
      case round =>
        obtain ⟨v, hv, rfl, hO, hbx⟩ := hrel
        have OX := Lib.hid hO
        have BX := Lib.hid hbx
        clear hO hbx
        obtain ⟨wx, hwx⟩ : ∃ wx, wx = wr := ⟨_, rfl⟩
        subst hwx
        obtain ⟨q0, q1⟩ := box2 (BB.out.trans_ BX.out)
        have sx := BX.out.size
        by_cases hvk : v < k
        · have hvk' : (v : Int) < (k : Int) := by omega
          have v0 : (0 : Int) ≤ (v : Int) := by omega
          go_wp2_with fail
          clear q0 q1
          go_loopw [7, 8] (fun m i wr => ∃ (x : Int) (s : Nat), s ≤ k ∧ i = .int .i64 s ∧ m = .int .i64 x ∧ IsMax (seenST k L (v : Int) k s 0) x ∧ Bl wx wr) (fun _ i _ => k - (intOf i).toNat)
          case atStart => exact ⟨0, 0, by omega, rfl, rfl, seen_start, Bl.refl _⟩
          case round =>
            obtain ⟨x, s, hs, rfl, rfl, hmx, hby⟩ := hrel
            have MX := Lib.hid hmx
            have BY := Lib.hid hby
            clear hmx hby
            obtain ⟨wy, hwy⟩ : ∃ wy, wy = wr := ⟨_, rfl⟩
            subst hwy
            obtain ⟨q0, q1⟩ := box2 ((BB.out.trans_ BX.out).trans_ BY.out)
            by_cases hsk : s < k
            · have hsk' : (s : Int) < (k : Int) := by omega
              have s0 : (0 : Int) ≤ (s : Int) := by omega
              go_wp2_with fail
              clear q0 q1
              go_loopw [7, 9] (fun m i wr => ∃ (x : Int) (t : Nat), t ≤ k ∧ i = .int .i64 t ∧ m = .int .i64 x ∧ IsMax (seenST k L (v : Int) k s t) x ∧ Bl wy wr) (fun _ i _ => k - (intOf i).toNat)
              case atStart => exact ⟨x, 0, by omega, rfl, rfl, MX.out, Bl.refl _⟩
              case round =>
                clear MX
                obtain ⟨x, t, ht, rfl, rfl, hmx, hbz⟩ := hrel
                have MX := Lib.hid hmx
                have BZ := Lib.hid hbz
                clear hmx hbz
                obtain ⟨q0, q1⟩ := box2 (((BB.out.trans_ BX.out).trans_ BY.out).trans_ BZ.out)
                by_cases htk : t < k
                · have htk' : (t : Int) < (k : Int) := by omega
                  have t0 : (0 : Int) ≤ (t : Int) := by omega
                  have BW := Lib.hid ((BX.out.trans_ BY.out).trans_ BZ.out)
                  obtain ⟨g1, o1, c1, r1, l1, e1⟩ := HR.out s v hsk hvk
                  obtain ⟨g2, o2, c2, r2, l2, e2⟩ := HR.out v t hvk htk
                  obtain ⟨g3, o3, c3, r3, l3, e3⟩ := HR.out s t hsk htk
                  have m1 := HTOP.out s (v : Int) hsk
                  have m2 := HTOP.out v (t : Int) hvk
                  rw [r1] at r3
                  injection r3 with r3
                  injection r3 with r31 r32 r33
                  injection r31 with r31
                  injection r31 with r311 r312
                  subst r311 r312 r33
                  have ON := Lib.hid (fun h1 h2 h3 => seen_on (s := s) (t := t) (v := (v : Int)) hsk htk rfl rfl rfl h1 h2 h3 MX.out)
                  have OFF := Lib.hid (fun hn => seen_off (s := s) (t := t) (v := (v : Int)) rfl rfl rfl hn MX.out)
                  have hb := (bcell BW.out).1
                  rw [← hb _ _ hgl] at r1 r2
                  rw [← hb _ _ l1] at e1 e3
                  rw [← hb _ _ l2] at e2
                  generalize dAt (distL (k : Int) L (s : Int)) (v : Int) = a at *
                  generalize dAt (distL (k : Int) L (v : Int)) (t : Int) = b at *
                  generalize dAt (distL (k : Int) L (s : Int)) (t : Int) = d at *
                  clear hb MX HTOP HR
                  by_cases h1 : 0 ≤ a
                  · by_cases h2 : 0 ≤ b
                    · by_cases h3 : a + b = d
                      · have HM := Lib.hid (ON.out h1 h2 h3)
                        clear ON OFF
                        go_wp2
                        go_roundw
                        case rel => exact ⟨_, t + 1, by omega, by go_num, rfl, HM.out, BZ.out⟩
                        case measure => simp [intOf]; omega
                      · have HM := Lib.hid (OFF.out (fun h => h3 h.2.2))
                        have hb3 : (a + b == d) = false := by simpa using h3
                        clear ON OFF
                        go_wp2
                        go_roundw
                        case rel => exact ⟨_, t + 1, by omega, by go_num, rfl, HM.out, BZ.out⟩
                        case measure => simp [intOf]; omega
                    · have HM := Lib.hid (OFF.out (fun h => h2 h.2.1))
                      clear ON OFF
                      go_wp2
                      go_roundw
                      case rel => exact ⟨_, t + 1, by omega, by go_num, rfl, HM.out, BZ.out⟩
                      case measure => simp [intOf]; omega
                  · have HM := Lib.hid (OFF.out (fun h => h1 h.1))
                    clear ON OFF
                    go_wp2
                    go_roundw
                    case rel => exact ⟨_, t + 1, by omega, by go_num, rfl, HM.out, BZ.out⟩
                    case measure => simp [intOf]; omega
                · obtain rfl : t = k := by omega
                  have HM := Lib.hid (seen_row MX.out)
                  clear MX HTOP HR
                  go_wp2
                  go_roundw
                  case rel => exact ⟨x, s + 1, by omega, by go_num, rfl, HM.out, BY.out.trans_ BZ.out⟩
                  case measure => simp [intOf]; omega
            · obtain rfl : s = k := by omega
              have HV := Lib.hid (seen_all HO.out hvk MX.out)
              have OZ := Lib.hid (OX.out.bl BY.out)
              have BZ := Lib.hid (BX.out.trans_ BY.out)
              have hvl : v < (reachS s (allS (s : Int) L s)).length := by rw [hRS]; exact hvk
              have TS := Lib.hid (show (reachS s (allS (s : Int) L s)).take (v + 1) = (reachS s (allS (s : Int) L s)).take v ++ [x] from by
                rw [List.take_succ_eq_append_getElem hvl, HV.out]
                simp [hvl])
              have tl : ((reachS s (allS (s : Int) L s)).take v).length = v := by rw [List.length_take]; omega
              generalize (reachS s (allS (s : Int) L s)).take v = P at *
              have sz := BZ.out.size
              have LT := Lib.hid (Owns.lt OZ.out)
              have TL := Lib.hid tl
              clear MX HTOP HR OX
              go_wp2_with (at_builtin; refine wpList_append_any _ rfl (.tmp 86) (.tmp 88) _ rfl w2.heap.size 2 j0 _ 1 8 Try.underlying37 J0.out J1.out J2.out J3.out rfl (by decide) _ P.length (csI P) rfl (World.ownsRow.alloc OZ.out _) (wy.heap.size + 1) (some ⟨wy.heap.size, 0, none⟩) 1 1 [.int .i64 x] rfl ?c0 (by simp [Value.oneCell']) ?c3 ?c4 ?c5 ?_)
              case c0 =>
                refine ⟨rfl, fun _ => ⟨_, rfl, by show wy.heap.size < wy.heap.size + 1; omega, fun y u hj => ?_⟩⟩
                match y, hj with
                | 0, hj => simp at hj; subst hj; simp [Addr.add, go_sem]
                | (y + 1), hj => simp at hj
              case c3 => unfold maxLen; omega
              case c4 => omega
              case c5 => simp; omega
              intro v' w8 hown' hgrow hwh
              have O8 := Lib.hid (OwnN.snoc (V := P) (x := x) (n := v) TL.out.symm hown')
              have B8 := Lib.hid (show Bl w2 w8 from (BZ.out.alloc_ (.cells #[.int .i64 x] 2)).grown_ hgrow (fun g hg => (LT.out g hg).1))
              clear hown' hgrow hwh
              go_wp2
              go_roundw
              case rel => exact ⟨v + 1, by omega, by go_num, by rw [TS.out]; exact O8.out, B8.out⟩
              case measure => simp [intOf]; omega
        · obtain rfl : v = k := by omega
          have HF := Lib.hid (show (reachS v (allS (v : Int) L v)).take v = reachS v (allS (v : Int) L v) from List.take_of_length_le (by omega))
          clear HTOP HR
          go_wp2
          go_ret
          exact ⟨_, rfl, by rw [← HF.out]; exact OX.out.low ORD.out.size, ORD.out.trans_ BX.out⟩

set_option maxHeartbeats 400000 in
theorem specReachOf_any (N : Int) (A : Option Addr) (n c : Nat) (L : List Arc3) (hn : n = L.length) (w : World) (hm : n ≤ 1048576) (H1 : ArcsAt w w.heap.size A L) :
    Calls Try.prog 55 #[.agg #[.int .i64 N, .slice A n c]] w (NumsMade (reachL N L) w) := by
  have K1 := Lib.hid H1
  have HN := Lib.hid hn
  clear H1 hn
  cases ho : okB N L with
  | false =>
    have HO := Lib.hid ho
    clear ho
    go_enter Try.func55, Try.ntmps55
    go_wp2_with fail
    refine (specOk_any N A n c L HN.out _ (by omega) (K1.out.bl (by repeat' (first | exact Bl.refl _ | with_reducible assumption | with_reducible refine Bl.drew_ ?_ | with_reducible refine Bl.drewN_ ?_ _ | with_reducible refine Bl.alloc_ ?_ _ | with_reducible refine Bl.trans_ ?_ (by assumption) | with_reducible refine Bl.trans_ ?_ (And.left (by assumption)))))).mono ?_
    rintro e w1 ⟨rfl, hb1⟩
    rw [HO.out]
    go_wp2
    go_ret
    refine ⟨_, rfl, ?_, (by repeat' (first | exact Bl.refl _ | with_reducible assumption | with_reducible refine Bl.drew_ ?_ | with_reducible refine Bl.drewN_ ?_ _ | with_reducible refine Bl.alloc_ ?_ _ | with_reducible refine Bl.trans_ ?_ (by assumption) | with_reducible refine Bl.trans_ ?_ (And.left (by assumption))))⟩
    unfold reachL
    rw [HO.out, if_neg (by simp)]
    have h := World.ownsRow_made (base := w.heap.size) (e := 2) (size := 1) w1 #[] 0 (by have := hb1.size; simp at this; omega) (by unfold maxLen; omega) rfl
    simpa [OwnN, Owns, csI] using h
  | true =>
    have HO := Lib.hid ho
    have hN1 := (okB_elim ho).1
    clear ho
    obtain ⟨q, rfl⟩ : ∃ q : Nat, N = q := ⟨N.toNat, by omega⟩
    go_enter Try.func55, Try.ntmps55
    go_wp2_with fail
    refine (specOk_any (q : Int) A n c L HN.out _ (by omega) (K1.out.bl (by repeat' (first | exact Bl.refl _ | with_reducible assumption | with_reducible refine Bl.drew_ ?_ | with_reducible refine Bl.drewN_ ?_ _ | with_reducible refine Bl.alloc_ ?_ _ | with_reducible refine Bl.trans_ ?_ (by assumption) | with_reducible refine Bl.trans_ ?_ (And.left (by assumption)))))).mono ?_
    rintro e w1 ⟨rfl, hb1⟩
    rw [HO.out]
    obtain ⟨q0, q1⟩ := box2 hb1
    go_wp2_with fail
    refine (l5Reach_any q A n c L HN.out HO.out _ (by omega) (K1.out.bl (by repeat' (first | exact Bl.refl _ | with_reducible assumption | with_reducible refine Bl.drew_ ?_ | with_reducible refine Bl.drewN_ ?_ _ | with_reducible refine Bl.alloc_ ?_ _ | with_reducible refine Bl.trans_ ?_ (by assumption) | with_reducible refine Bl.trans_ ?_ (And.left (by assumption)))))).mono ?_
    rintro e w2 ⟨v, rfl, hv, hb2⟩
    have HV := Lib.hid hv
    have s1 := hb1.size
    clear hv
    go_wp2
    go_ret
    refine ⟨_, rfl, ?_, (by repeat' (first | exact Bl.refl _ | with_reducible assumption | with_reducible refine Bl.drew_ ?_ | with_reducible refine Bl.drewN_ ?_ _ | with_reducible refine Bl.alloc_ ?_ _ | with_reducible refine Bl.trans_ ?_ (by assumption) | with_reducible refine Bl.trans_ ?_ (And.left (by assumption))))⟩
    unfold reachL
    rw [HO.out, if_pos rfl]
    simp only [Int.toNat_natCast]
    refine OwnN.low HV.out ?_
    simp at s1 ⊢
    omega

end Go.Proofs.Ytpbgnidjgmmebaa

set_option linter.unusedSimpArgs false
set_option linter.unusedVariables false
namespace Go.Proofs.Ytpbgnidjgmmebaa
open Go.RowKit

/-- The first k of these numbers are none of them less than the reaches. -/
def notLess (N : Int) (L : List Arc3) (V : List Int) (k : Nat) : Bool := (List.range k).all fun i => decide ((reachL N L).getD i 0 ≤ V.getD i 0)
theorem notLess_zero (N : Int) (L : List Arc3) (V : List Int) : notLess N L V 0 = true := rfl
theorem notLess_succ (N : Int) (L : List Arc3) (V : List Int) (k : Nat) : notLess N L V (k + 1) = (notLess N L V k && decide ((reachL N L).getD k 0 ≤ V.getD k 0)) := by
  unfold notLess
  rw [List.range_succ, List.all_append]
  simp
theorem notLess_false {N : Int} {L : List Arc3} {V : List Int} {k : Nat} (h : notLess N L V k = false) : ∀ m, notLess N L V (k + m) = false
  | 0 => h
  | m + 1 => by rw [show k + (m + 1) = (k + m) + 1 from by omega, notLess_succ, notLess_false h m, Bool.false_and]
/-- Are these numbers right as reaches? -/
def reachB (N : Int) (L : List Arc3) (V : List Int) : Bool := okB N L && decide ((V.length : Int) = N) && notLess N L V V.length
theorem reachL_ok {q : Nat} {L : List Arc3} (h : okB (q : Int) L = true) : reachL q L = reachS q (allS q L q) := by
  unfold reachL
  rw [if_pos h]
  simp
theorem reachL_q {q : Nat} {L : List Arc3} (h : okB (q : Int) L = true) : (reachL q L).length = q := by rw [reachL_ok h, reachS_len]
theorem ret_boolw {a b : Bool} (h : a = b) : Ending.returned (.bool a) = .returned (.bool b) := by rw [h]

set_option maxRecDepth 100000 in
set_option maxHeartbeats 1000000 in
theorem specReachOk_any (N : Int) (A : Option Addr) (n c : Nat) (L : List Arc3) (hn : n = L.length) (A2 : Option Addr) (k c2 : Nat) (V : List Int) (hk : k = V.length) (w : World) (hm : n ≤ 1048576) (hkm : k ≤ 1048576) (H1 : ArcsAt w w.heap.size A L) (H2 : IntsAt w w.heap.size A2 V) :
    Calls Try.prog 51 #[.agg #[.int .i64 N, .slice A n c], .slice A2 k c2] w fun e w' => e = .returned (.bool (reachB N L V)) ∧ Bl w w' := by
  have K1 := Lib.hid H1
  have K2 := Lib.hid H2
  have HN := Lib.hid hn
  have HK := Lib.hid hk
  clear H1 H2 hn hk
  cases ho : okB N L with
  | false =>
    have HR := Lib.hid (show reachB N L V = false from by unfold reachB; rw [ho, Bool.false_and, Bool.false_and])
    have HO := Lib.hid ho
    clear ho
    go_enter Try.func51, Try.ntmps51
    go_wp2_with fail
    refine (specOk_any N A n c L HN.out _ (by omega) (K1.out.bl (by repeat' (first | exact Bl.refl _ | with_reducible assumption | with_reducible refine Bl.drew_ ?_ | with_reducible refine Bl.drewN_ ?_ _ | with_reducible refine Bl.alloc_ ?_ _ | with_reducible refine Bl.trans_ ?_ (by assumption) | with_reducible refine Bl.trans_ ?_ (And.left (by assumption)))))).mono ?_
    rintro e w1 ⟨rfl, hb1⟩
    rw [HO.out]
    go_wp2
    go_ret
    exact ⟨ret_boolw HR.out.symm, (by repeat' (first | exact Bl.refl _ | with_reducible assumption | with_reducible refine Bl.drew_ ?_ | with_reducible refine Bl.drewN_ ?_ _ | with_reducible refine Bl.alloc_ ?_ _ | with_reducible refine Bl.trans_ ?_ (by assumption) | with_reducible refine Bl.trans_ ?_ (And.left (by assumption))))⟩
  | true =>
    have HO := Lib.hid ho
    have hN1 := (okB_elim ho).1
    have hN24 := (okB_elim ho).2.1
    clear ho
    by_cases hkN : (k : Int) = N
    · subst hkN
      have hne : ((k : Int) != (k : Int)) = false := by simp
      go_enter Try.func51, Try.ntmps51
      go_wp2_with fail
      refine (specOk_any (k : Int) A n c L HN.out _ (by omega) (K1.out.bl (by repeat' (first | exact Bl.refl _ | with_reducible assumption | with_reducible refine Bl.drew_ ?_ | with_reducible refine Bl.drewN_ ?_ _ | with_reducible refine Bl.alloc_ ?_ _ | with_reducible refine Bl.trans_ ?_ (by assumption) | with_reducible refine Bl.trans_ ?_ (And.left (by assumption)))))).mono ?_
      rintro e w1 ⟨rfl, hb1⟩
      rw [HO.out]
      obtain ⟨q0, q1⟩ := box2 hb1
      have BB := Lib.hid (show Bl w w1 from (by repeat' (first | exact Bl.refl _ | with_reducible assumption | with_reducible refine Bl.drew_ ?_ | with_reducible refine Bl.drewN_ ?_ _ | with_reducible refine Bl.alloc_ ?_ _ | with_reducible refine Bl.trans_ ?_ (by assumption) | with_reducible refine Bl.trans_ ?_ (And.left (by assumption)))))
      go_wp2_with fail
      refine (l5Reach_any k A n c L HN.out HO.out _ (by omega) (K1.out.bl (by repeat' (first | exact Bl.refl _ | with_reducible assumption | with_reducible refine Bl.drew_ ?_ | with_reducible refine Bl.drewN_ ?_ _ | with_reducible refine Bl.alloc_ ?_ _ | with_reducible refine Bl.trans_ ?_ (by assumption) | with_reducible refine Bl.trans_ ?_ (And.left (by assumption)))))).mono ?_
      rintro e w2 ⟨v, rfl, hv, hb2⟩
      rw [← reachL_ok HO.out] at hv
      obtain ⟨A3, c3, rfl, -, hA3, -, -⟩ := OwnN.shape hv
      rw [reachL_q HO.out]
      have V3 := Lib.hid hA3
      have B2 := Lib.hid (show Bl w w2 from (by repeat' (first | exact Bl.refl _ | with_reducible assumption | with_reducible refine Bl.drew_ ?_ | with_reducible refine Bl.drewN_ ?_ _ | with_reducible refine Bl.alloc_ ?_ _ | with_reducible refine Bl.trans_ ?_ (by assumption) | with_reducible refine Bl.trans_ ?_ (And.left (by assumption)))))
      have RQ := Lib.hid (reachL_q HO.out)
      clear hv hA3 q0 q1 hb2
      go_wp2_with fail
      go_loopw [6] (fun i wr => ∃ j : Nat, j ≤ k ∧ i = .int .i64 j ∧ Bl w2 wr ∧ notLess k L V j = true) (fun i _ => k - (intOf i).toNat)
      case atStart => exact ⟨0, by omega, rfl, Bl.refl _, rfl⟩
      case round =>
        obtain ⟨j, hj, rfl, hbl, hnl⟩ := hrel
        have NL := Lib.hid hnl
        clear hnl
        by_cases hlt : j < k
        · have hj1 : j < V.length := by have := HK.out; omega
          have hj2 : j < (reachL k L).length := by rw [RQ.out]; exact hlt
          obtain ⟨g2, o2, rfl, hg2, hc2⟩ := K2.out.cell (by omega)
          obtain ⟨g3, o3, rfl, hg3, hc3⟩ := V3.out.cell (by omega)
          have p2 := hc2 j hj1
          have p3 := hc3 j hj2
          have e2 : V.getD j 0 = V[j] := by simp [hj1]
          have e3 : (reachL k L).getD j 0 = (reachL k L)[j] := by simp [hj2]
          have NS := Lib.hid (notLess_succ k L V j)
          have NF := Lib.hid (show notLess k L V (j + 1) = false → reachB k L V = false from fun h => by
            have := notLess_false h (V.length - (j + 1))
            rw [show j + 1 + (V.length - (j + 1)) = V.length from by omega] at this
            unfold reachB
            rw [this, Bool.and_false])
          rw [e2, e3, NL.out, Bool.true_and] at NS
          generalize V[j] = a at *
          generalize (reachL (k : Int) L)[j] = b at *
          have HSH := Lib.hid (show ∀ wx, Bl wr wx → Bl wr wx ∧ wx.cell? ⟨g2, o2 + j, none⟩ = some (.int .i64 a) ∧ wx.cell? ⟨g3, o3 + j, none⟩ = some (.int .i64 b) from fun wx hb =>
            ⟨hb, ((bcell ((B2.out.trans_ hbl).trans_ hb)).1 _ _ hg2).trans p2, ((bcell (hbl.trans_ hb)).1 _ _ hg3).trans p3⟩)
          have hj0 : (0 : Int) ≤ (j : Int) := by omega
          have hj3 : (j : Int) < (k : Int) := by omega
          clear hc2 hc3 p2 p3 e2 e3
          go_wp2_with fail
          refine wp_region_held_drew (S := fun wx => Bl wr wx ∧ wx.cell? ⟨g2, o2 + j, none⟩ = some (.int .i64 a) ∧ wx.cell? ⟨g3, o3 + j, none⟩ = some (.int .i64 b)) (by kernel_rfl) ?_ (fun hHeld => ?_)
          · (exact HSH.out _ (by repeat' (first | exact Bl.refl _ | with_reducible assumption | with_reducible refine Bl.drew_ ?_ | with_reducible refine Bl.drewN_ ?_ _ | with_reducible refine Bl.alloc_ ?_ _ | with_reducible refine Bl.trans_ ?_ (by assumption) | with_reducible refine Bl.trans_ ?_ (And.left (by assumption)))))
          refine wpAnyH_take (i := 0) (v := ?_) rfl (by kernel_rfl) (by kernel_rfl) (by kernel_rfl) (fun _ _ _ h => h) (Or.inl ⟨by kernel_rfl, ?_⟩) (by assumption) ?_
          rotate_left
          · (intro wx hSw; (try dsimp only at hSw); go_simp; try (with_reducible rfl))
          try simp only [Act.put, List.getElem_toArray, List.getElem_cons_succ, List.getElem_cons_zero, List.setIfInBounds_toArray, List.set_cons_zero, List.set_cons_succ]
          refine wpAnyH_take (i := 1) (v := ?_) rfl (by kernel_rfl) (by kernel_rfl) (by kernel_rfl) (fun _ _ _ h => h) (Or.inl ⟨by kernel_rfl, ?_⟩) (by assumption) ?_
          rotate_left
          · (intro wx hSw; (try dsimp only at hSw); go_simp; try (with_reducible rfl))
          try simp only [Act.put, List.getElem_toArray, List.getElem_cons_succ, List.getElem_cons_zero, List.setIfInBounds_toArray, List.set_cons_zero, List.set_cons_succ]
          refine wpAnyH_take (i := 2) (v := ?_) rfl (by kernel_rfl) (by kernel_rfl) (by kernel_rfl) (fun _ _ _ h => h) (Or.inl ⟨by kernel_rfl, ?_⟩) (by assumption) ?_
          rotate_left
          · (intro wx hSw; (try dsimp only at hSw); go_simp; try (with_reducible rfl))
          try simp only [Act.put, List.getElem_toArray, List.getElem_cons_succ, List.getElem_cons_zero, List.setIfInBounds_toArray, List.set_cons_zero, List.set_cons_succ]
          refine wpAnyH_take (i := 3) (v := ?_) rfl (by kernel_rfl) (by kernel_rfl) (by kernel_rfl) (fun _ _ _ h => h) (Or.inl ⟨by kernel_rfl, ?_⟩) (by assumption) ?_
          rotate_left
          · (intro wx hSw; (try dsimp only at hSw); go_simp; try (with_reducible rfl))
          try simp only [Act.put, List.getElem_toArray, List.getElem_cons_succ, List.getElem_cons_zero, List.setIfInBounds_toArray, List.set_cons_zero, List.set_cons_succ]
          refine wpAnyH_take (i := 4) (v := ?_) rfl (by kernel_rfl) (by kernel_rfl) (by kernel_rfl) (fun _ _ _ h => h) (Or.inl ⟨by kernel_rfl, ?_⟩) (by assumption) ?_
          rotate_left
          · (intro wx hSw; (try dsimp only at hSw); go_simp; try (with_reducible rfl))
          try simp only [Act.put, List.getElem_toArray, List.getElem_cons_succ, List.getElem_cons_zero, List.setIfInBounds_toArray, List.set_cons_zero, List.set_cons_succ]
          refine wpAnyH_take (i := 5) (v := ?_) rfl (by kernel_rfl) (by kernel_rfl) (by kernel_rfl) (fun _ _ _ h => h) (Or.inl ⟨by kernel_rfl, ?_⟩) (by assumption) ?_
          rotate_left
          · (intro wx hSw; (try dsimp only at hSw); go_simp; try (with_reducible rfl))
          try simp only [Act.put, List.getElem_toArray, List.getElem_cons_succ, List.getElem_cons_zero, List.setIfInBounds_toArray, List.set_cons_zero, List.set_cons_succ]
          refine wpAnyH_take (i := 6) (v := ?_) rfl (by kernel_rfl) (by kernel_rfl) (by kernel_rfl) (fun _ _ _ h => h) (Or.inl ⟨by kernel_rfl, ?_⟩) (by assumption) ?_
          rotate_left
          · (intro wx hSw; (try dsimp only at hSw); go_simp; try (with_reducible rfl))
          try simp only [Act.put, List.getElem_toArray, List.getElem_cons_succ, List.getElem_cons_zero, List.setIfInBounds_toArray, List.set_cons_zero, List.set_cons_succ]
          refine wpAnyH_take (i := 7) (v := ?_) rfl (by kernel_rfl) (by kernel_rfl) (by kernel_rfl) (fun _ _ _ h => h) (Or.inl ⟨by kernel_rfl, ?_⟩) (by assumption) ?_
          rotate_left
          · (intro wx hSw; (try dsimp only at hSw); go_simp; try (with_reducible rfl))
          try simp only [Act.put, List.getElem_toArray, List.getElem_cons_succ, List.getElem_cons_zero, List.setIfInBounds_toArray, List.set_cons_zero, List.set_cons_succ]
          refine wpAnyH_take (i := 8) (v := ?_) rfl (by kernel_rfl) (by kernel_rfl) (by kernel_rfl) (fun _ _ _ h => h) (Or.inl ⟨by kernel_rfl, ?_⟩) (by assumption) ?_
          rotate_left
          · (intro wx hSw; (try dsimp only at hSw); go_simp; try (with_reducible rfl))
          try simp only [Act.put, List.getElem_toArray, List.getElem_cons_succ, List.getElem_cons_zero, List.setIfInBounds_toArray, List.set_cons_zero, List.set_cons_succ]
          refine wpAnyH_done (by kernel_rfl) ?_ _
          by_cases hab : a < b
          · have hd : decide (b ≤ a) = false := by simp; omega
            have RB := Lib.hid (NF.out (by rw [NS.out, hd]))
            go_wp2
            go_ret
            exact ⟨ret_boolw RB.out.symm, (B2.out.trans_ hbl).trans_ (by repeat' (first | exact Bl.refl _ | with_reducible assumption | with_reducible refine Bl.drew_ ?_ | with_reducible refine Bl.drewN_ ?_ _ | with_reducible refine Bl.alloc_ ?_ _ | with_reducible refine Bl.trans_ ?_ (by assumption) | with_reducible refine Bl.trans_ ?_ (And.left (by assumption))))⟩
          · have hd : decide (b ≤ a) = true := by simp; omega
            have NT := Lib.hid (show notLess k L V (j + 1) = true from by rw [NS.out, hd])
            go_wp2
            go_roundw
            case rel => exact ⟨j + 1, by omega, by go_num, hbl.trans_ (by repeat' (first | exact Bl.refl _ | with_reducible assumption | with_reducible refine Bl.drew_ ?_ | with_reducible refine Bl.drewN_ ?_ _ | with_reducible refine Bl.alloc_ ?_ _ | with_reducible refine Bl.trans_ ?_ (by assumption) | with_reducible refine Bl.trans_ ?_ (And.left (by assumption)))), NT.out⟩
            case measure => simp [intOf]; omega
        · have RB := Lib.hid (show reachB k L V = true from by
            unfold reachB
            rw [HO.out, show V.length = j from by have := HK.out; omega, NL.out]
            simp; omega)
          go_wp2
          go_ret
          exact ⟨ret_boolw RB.out.symm, B2.out.trans_ hbl⟩
    · have hne : ((k : Int) != N) = true := by simpa using hkN
      have HR := Lib.hid (show reachB N L V = false from by unfold reachB; rw [show decide ((V.length : Int) = N) = false from by rw [← HK.out]; simpa using hkN, Bool.and_false, Bool.false_and])
      go_enter Try.func51, Try.ntmps51
      go_wp2_with fail
      refine (specOk_any N A n c L HN.out _ (by omega) (K1.out.bl (by repeat' (first | exact Bl.refl _ | with_reducible assumption | with_reducible refine Bl.drew_ ?_ | with_reducible refine Bl.drewN_ ?_ _ | with_reducible refine Bl.alloc_ ?_ _ | with_reducible refine Bl.trans_ ?_ (by assumption) | with_reducible refine Bl.trans_ ?_ (And.left (by assumption)))))).mono ?_
      rintro e w1 ⟨rfl, hb1⟩
      rw [HO.out]
      obtain ⟨q0, q1⟩ := box2 hb1
      go_wp2
      go_ret
      exact ⟨ret_boolw HR.out.symm, (by repeat' (first | exact Bl.refl _ | with_reducible assumption | with_reducible refine Bl.drew_ ?_ | with_reducible refine Bl.drewN_ ?_ _ | with_reducible refine Bl.alloc_ ?_ _ | with_reducible refine Bl.trans_ ?_ (by assumption) | with_reducible refine Bl.trans_ ?_ (And.left (by assumption))))⟩

end Go.Proofs.Ytpbgnidjgmmebaa

set_option linter.unusedSimpArgs false
set_option linter.unusedVariables false
namespace Go.Proofs.Ytpbgnidjgmmebaa
open Go.RowKit

theorem onL_sel {N s t : Int} {L : List Arc3} (hh : has2 N L s t = true) : onL N L s t = (selST N L s t).map (fun p => p.1) := by
  obtain ⟨ho, hs, ht⟩ := has2_of hh
  have hD := distL_is (s := s) (arcsIn_of_ok ho) (okB_elim ho).2.1 hs.1 hs.2
  have hE := distL_is (s := t) (arcsIn_of_ok (revL_ok ho)) (okB_elim ho).2.1 ht.1 ht.2
  unfold onL
  rw [if_pos hh]
  unfold withinL withinD selST selE passK nodesL
  have hmem : ∀ v ∈ (List.range N.toNat).map Int.ofNat, 0 ≤ v ∧ v < N := fun v hv => mem_nodesL.1 (show v ∈ nodesL N from hv)
  generalize (List.range N.toNat).map Int.ofNat = ns at hmem ⊢
  rw [List.filter_map, List.map_map, List.filter_filter]
  have e : ((fun p : Arc3 => p.1) ∘ fun v => (v, dAt (distL N L s) v, dAt (distL N (revL L) t) v)) = id := rfl
  rw [e, List.map_id]
  refine List.filter_congr fun v hv => ?_
  obtain ⟨h0, h1⟩ := hmem v hv
  rw [byB_on ho hD hE h0 h1, Bool.eq_iff_iff]
  unfold bothB
  simp only [Function.comp, Bool.and_eq_true, decide_eq_true_eq]
  constructor
  · rintro ⟨a, b, c⟩; exact ⟨c, a, b⟩
  · rintro ⟨c, a, b⟩; exact ⟨a, b, c⟩
theorem sel_at {N s t : Int} {L : List Arc3} (hh : has2 N L s t = true) {p : Arc3} (hp : p ∈ selST N L s t) : (0 ≤ p.1 ∧ p.1 < N) ∧ min (distOfI N L s p.1) (distOfI N L p.1 t) = lessP p := by
  obtain ⟨ho, hs, ht⟩ := has2_of hh
  have hN := (okB_elim ho).1
  obtain ⟨h1, h2⟩ := mem_selST.1 hp
  obtain ⟨h3, h4, h5, h6, h7⟩ := mem_passK.1 h1
  have h8 : 0 ≤ p.1 ∧ p.1 < N := by omega
  refine ⟨h8, ?_⟩
  unfold lessP
  rw [h4, h5, distOfI_of ho hs h8, distOfI_of ho h8 ht, distL_of_turned ho h8 ht]
theorem reach_all {N : Int} {L : List Arc3} (ho : okB N L = true) : reachS N.toNat (allS N L N.toNat) = reachL N L := by
  unfold reachL
  rw [if_pos ho]
theorem notLess_self (N : Int) (L : List Arc3) : ∀ k, notLess N L (reachL N L) k = true
  | 0 => notLess_zero N L _
  | k + 1 => by rw [notLess_succ, notLess_self N L k]; simp
theorem reachB_self {N : Int} {L : List Arc3} (ho : okB N L = true) : reachB N L (reachL N L) = true := by
  have hN := (okB_elim ho).1
  have hl : (reachL N L).length = N.toNat := by rw [← reach_all ho, reachS_len]
  unfold reachB
  rw [ho, notLess_self]
  simp only [Bool.true_and, Bool.and_true, decide_eq_true_eq]
  omega
theorem sel_len {N s t : Int} {L : List Arc3} (ho : okB N L = true) : (selST N L s t).length ≤ 24 := by
  have hN := (okB_elim ho).2.1
  unfold selST selE passK
  refine Nat.le_trans (List.length_filter_le _ _) ?_
  rw [List.length_map]
  refine Nat.le_trans (List.length_filter_le _ _) ?_
  simp
  omega
/-- What is told before the i-th node of a pair. -/
def upTo (N : Int) (L : List Arc3) (s t i : Nat) : List Int := reachS N.toNat (allS N L s ++ rowS N L (s : Int) t ++ (selST N L (s : Int) (t : Int)).take i)
theorem upTo_len (N : Int) (L : List Arc3) (s t i : Nat) : (upTo N L s t i).length = N.toNat := reachS_len _ _
theorem upTo_start (N : Int) (L : List Arc3) : upTo N L 0 0 0 = List.replicate N.toNat 0 := by
  unfold upTo
  simp [allS, rowS, reachS_nil]
theorem upTo_step {N : Int} {L : List Arc3} {s t i : Nat} (h : i < (selST N L (s : Int) (t : Int)).length) : upTo N L s t (i + 1) = (upTo N L s t i).set (selST N L (s : Int) (t : Int))[i].1.toNat (max ((upTo N L s t i).getD (selST N L (s : Int) (t : Int))[i].1.toNat 0) (lessP (selST N L (s : Int) (t : Int))[i])) := by
  unfold upTo
  rw [List.take_succ_eq_append_getElem h, ← List.append_assoc, reachS_snoc]
theorem upTo_pair (N : Int) (L : List Arc3) (s t : Nat) : upTo N L s t (selST N L (s : Int) (t : Int)).length = upTo N L s (t + 1) 0 := by
  unfold upTo
  rw [List.take_length, rowS_succ]
  simp
theorem upTo_row (N : Int) (L : List Arc3) (s : Nat) : upTo N L s N.toNat 0 = upTo N L (s + 1) 0 0 := by
  unfold upTo
  rw [allS_succ]
  simp [rowS]
theorem upTo_end {N : Int} {L : List Arc3} (ho : okB N L = true) : upTo N L N.toNat 0 0 = reachL N L := by
  rw [← reach_all ho]
  unfold upTo
  simp [rowS]

end Go.Proofs.Ytpbgnidjgmmebaa
