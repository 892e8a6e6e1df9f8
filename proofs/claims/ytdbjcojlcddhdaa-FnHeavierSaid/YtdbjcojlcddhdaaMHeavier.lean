/-
  What is proved here: contracts of the laws' small functions on slices of numbers; how far all nodes are, as the model reckons it; how far all nodes are, as the code reckons it; DistFrom and DistOf, on both sides; DistFrom and DistOf of the model; the laws' small functions that hold lists and graphs against each other, and ask for nodes; plain facts on distances there and back: by way of a third node it is no nearer; nodes by way of which it is at most so far; lengths of paths; plain facts on weights, on the nearest way over an arc, and on the arcs of all nodes, one behind the other; plain facts on arcs that are given a weight once and again; plain facts: where arcs are lighter nothing is farther; bounds of weights; spec.Weighed answers as the code does; the walk of the law FnHeavier: at every code that can be read it returns true and leaves what was there as it was. No conditions beyond those that each theorem states.
-/
import Derived.Test.YtdbjcojlcddhdaaW4
import Derived.Test.YtdbjcojlcddhdaaX1
import Derived.Deep.LoopGhost
import Derived.IntWalk
import Derived.Test.YtdbjcojlcddhdaaNF2
import Derived.Test.YtdbjcojlcddhdaaDR
import Derived.Test.YtdbjcojlcddhdaaG2
import Derived.Test.YtdbjcojlcddhdaaG3
import Derived.Test.YtdbjcojlcddhdaaDW
import Derived.Test.YtdbjcojlcddhdaaG2w
set_option linter.unusedSimpArgs false
set_option linter.unusedVariables false
namespace Go.Proofs.Ytdbjcojlcddhdaa
open Go.RowKit

theorem infoInt : (Try.prog.info? 2).map (fun i => (i.zero, i.size, i.bytes)) = some (some (.int .i64 0), 1, 8) := by kernel_rfl

/-- The slice at A reads as the numbers V, below block B. -/
def IntsAt (w : World) (B : Nat) (A : Option Addr) (V : List Int) : Prop := CellsAt w B A (csI V)
theorem IntsAt.cell {w : World} {B : Nat} {A : Option Addr} {V : List Int} (h : IntsAt w B A V) (h0 : 0 < V.length) :
    ∃ g off, A = some ⟨g, off, none⟩ ∧ g < B ∧ ∀ k (hk : k < V.length), w.cell? ⟨g, off + k, none⟩ = some (.int .i64 V[k]) := by
  obtain ⟨g, off, e, hg, hc⟩ := h (by rw [csI_len]; omega)
  exact ⟨g, off, e, hg, fun k hk => by rw [hc k (by rw [csI_len]; exact hk), csI_at]⟩
theorem IntsAt.bl {w w' : World} {A : Option Addr} {V : List Int} (h : IntsAt w w.heap.size A V) (hb : Bl w w') : IntsAt w' w'.heap.size A V := CellsAt.bl h hb
theorem IntsAt.bl' {w w' : World} {B : Nat} {A : Option Addr} {V : List Int} (h : IntsAt w B A V) (hB : B ≤ w.heap.size) (hb : Bl w w') : IntsAt w' B A V := CellsAt.bl' h hB hb
theorem IntsAt.more {w : World} {B B' : Nat} {A : Option Addr} {V : List Int} (h : IntsAt w B A V) (hB : B ≤ B') : IntsAt w B' A V := CellsAt.more h hB
theorem IntsAt.grown_ {w w' : World} {B : Nat} {A : Option Addr} {V : List Int} {row : Option Nat} (h : IntsAt w B A V) (hB : B ≤ w.heap.size) (hg : w.grownBy w' row)
    (hne : ∀ g, blockOf A = some g → g < B → some g ≠ row) : IntsAt w' B A V := CellsAt.grown_ h hB hg hne
/-- The value v owns the numbers V, in blocks from B on. -/
def OwnN (w : World) (B : Nat) (v : Value) (V : List Int) : Prop := Owns 2 1 w B v V.length (csI V)
theorem OwnN.nil_ (w : World) (B : Nat) : OwnN w B (.slice none 0 0) [] := Owns.nil_ _ _ _ _
theorem OwnN.bl {w w' : World} {B : Nat} {v : Value} {V : List Int} (h : OwnN w B v V) (hb : Bl w w') : OwnN w' B v V := Owns.bl h hb
theorem OwnN.low {w : World} {B B' : Nat} {v : Value} {V : List Int} (h : OwnN w B' v V) (hB : B ≤ B') : OwnN w B v V := Owns.low h hB
theorem OwnN.shape {w : World} {B : Nat} {v : Value} {V : List Int} (h : OwnN w B v V) :
    ∃ A c, v = .slice A V.length c ∧ V.length ≤ c ∧ IntsAt w w.heap.size A V ∧ RowsW 2 1 w A V.length ∧ ∀ g, blockOf A = some g → B ≤ g ∧ g < w.heap.size := by
  have h' := h
  obtain ⟨A, c, rfl, hc, h1, h2, h3⟩ := Owns.shape h
  refine ⟨A, c, rfl, ?_, h1, h2, Owns.lt_ h⟩
  rcases h'.2 with ⟨e, h0⟩ | ⟨g, cap, cur, e, _, _, hnc, _⟩
  · omega
  · injection e with e1 e2 e3
    omega
/-- A new list of numbers is left. -/
def NumsMade (V : List Int) (w : World) (e : Ending) (w' : World) : Prop := ∃ v, e = .returned v ∧ OwnN w' w.heap.size v V ∧ Bl w w'

-- (eqInt64S_yes left out)

-- (markInt64S_any left out)

-- (heldInt64S_any left out)

theorem make_ints (n : Nat) (hn : n ≤ 1048576) (w : World) : (Instr.makeSlice 38 (.int .i64 (n : Int)) (.int .i64 (n : Int))).run Try.prog w = .ok (.slice (some ⟨w.heap.size, 0, none⟩) n n) (w.alloc (.cells (madeCells #[.int .i64 0] (n * 1)) 2)) := by
  obtain ⟨i0, hi, hz0, hz1, hz2⟩ := info_parts infoInt
  have h := run_make_rowN (P := Try.prog) 38 2 i0 (.int .i64 0) Try.underlying38 hi hz0 .i64 .i64 n n (Nat.le_refl _) (by rw [hz2]; omega) (by omega) w
  rw [hz1] at h
  exact h

-- (szInt64S_any left out)

/-- What the marks leave. -/
def MarkN (A : Option Addr) (n : Nat) (k : Int) (w : World) (e : Ending) (w' : World) : Prop :=
  e = .returned (.int .i64 (k + n)) ∧ Marks w' A n k ∧ w.grownBy w' (blockOf A) ∧ RowsW 2 1 w' A n
-- (markN_any left out)

end Go.Proofs.Ytdbjcojlcddhdaa

set_option linter.unusedSimpArgs false
set_option linter.unusedVariables false
namespace Go.Proofs.Ytdbjcojlcddhdaa
open Go.RowKit

theorem OwnN.snoc {w : World} {B : Nat} {v : Value} {V : List Int} {x : Int} {n : Nat} (hn : n = V.length) (h : w.ownsRow B 2 1 v (n + 1) (csI V ++ [.int .i64 x])) : OwnN w B v (V ++ [x]) := by
  unfold OwnN Owns
  rw [List.length_append, ← hn]
  simpa [csI] using h
/-- What holds where a word is true, and where it is not. -/
def IfT (b : Bool) (P : Prop) : Prop := b = true → P
def IfF (b : Bool) (P : Prop) : Prop := b = false → P
/-- A list of numbers of one's own, in a block. -/
def RowN (w : World) (g c : Nat) (V : List Int) : Prop := OwnN w g (.slice (some ⟨g, 0, none⟩) V.length c) V
theorem RowN.cells {w : World} {g c : Nat} {V : List Int} (h : RowN w g c V) : (∀ o, w.frozen? ⟨g, o, none⟩ = false) ∧ (∀ k (hk : k < V.length), w.cell? ⟨g, k, none⟩ = some (.int .i64 V[k])) := by
  refine ⟨fun o => World.ownsRow.frozenAt h o, fun k hk => ?_⟩
  rw [World.ownsRow.cellAt h k (by omega), List.getElem?_eq_getElem (by rw [csI_len]; exact hk), csI_at]
theorem RowN.bl {w w' : World} {g c : Nat} {V : List Int} (h : RowN w g c V) (hb : Bl w w') : RowN w' g c V := OwnN.bl h hb
theorem RowN.set {w : World} {g c : Nat} {V : List Int} (h : RowN w g c V) (k : Nat) (x : Int) : RowN (w.setCell ⟨g, k, none⟩ (.int .i64 x)) g c (V.set k x) := by
  have h' := (Owns.stored h k (.int .i64 x)).1
  unfold RowN OwnN
  rw [List.length_set]
  have e : csI (V.set k x) = (csI V).set k (.int .i64 x) := by simp [csI, List.map_set]
  rw [e]
  exact h'

theorem OwnN.toRow {w : World} {B : Nat} {v : Value} {V : List Int} (h : OwnN w B v V) (h0 : 0 < V.length) : ∃ g c, v = .slice (some ⟨g, 0, none⟩) V.length c ∧ B ≤ g ∧ g < w.heap.size ∧ RowN w g c V := by
  obtain ⟨A, c, rfl, -, -, -, h3⟩ := Owns.shape h
  obtain ⟨g, rfl, hB, hg, -, -⟩ := h3 h0
  refine ⟨g, c, rfl, hB, hg, h.1, ?_⟩
  rcases h.2 with ⟨e, h1⟩ | ⟨g', cap, cur, e, hB', r⟩
  · simp at e
  · have e' := e
    injection e with e1 e2 e3
    injection e1 with e1
    injection e1 with e1
    exact .inr ⟨g', cap, cur, e', by omega, r⟩
theorem RowN.own {w : World} {g c B : Nat} {V : List Int} (h : RowN w g c V) (hB : B ≤ g) : OwnN w B (.slice (some ⟨g, 0, none⟩) V.length c) V := OwnN.low h hB
theorem RowN.lt {w : World} {g c : Nat} {V : List Int} (h : RowN w g c V) : g < w.heap.size := (Owns.lt_ h g rfl).2

set_option maxRecDepth 100000 in
set_option maxHeartbeats 4000000 in
theorem l3Dist_any (N s : Int) (A : Option Addr) (n c : Nat) (L : List Arc3) (hn : n = L.length) (ho : okB N L = true) (h0 : 0 ≤ s) (h1 : s < N) (w : World) (hm : n ≤ 1048576) (H1 : ArcsAt w w.heap.size A L) :
    Calls Try.prog 77 #[.agg #[.int .i64 N, .slice A n c], .int .i64 s] w (NumsMade (distL N L s) w) := by
  obtain ⟨i0, hi, hz0, hz1, hz2⟩ := info_parts infoInt
  have I0 := Lib.hid hi
  have I1 := Lib.hid hz0
  have I2 := Lib.hid hz1
  have I3 := Lib.hid hz2
  have K1 := Lib.hid H1
  have HN := Lib.hid hn
  have HO := Lib.hid ho
  have hN24 := (okB_elim ho).2.1
  have hL150 := (okB_elim ho).2.2.1
  obtain ⟨m, rfl⟩ : ∃ m : Nat, N = m := ⟨N.toNat, by omega⟩
  obtain ⟨q, rfl⟩ : ∃ q : Nat, s = q := ⟨s.toNat, by omega⟩
  have hm24 : m ≤ 24 := by omega
  have hqm : q < m := by omega
  clear H1 hn hi hz0 hz1 hz2 ho
  go_enter Try.func77, Try.ntmps77
  go_wp2_with fail
  go_loopw [5, 6] (fun v i wr => ∃ k : Nat, k ≤ m ∧ i = .int .i64 k ∧ OwnN wr (w.heap.size + 1) v (List.replicate k (-1)) ∧ Bl (w.alloc (.cells #[.int .i64 (m : Int), .slice A n c] 26)) wr) (fun _ i _ => m - (intOf i).toNat)
  case atStart =>
    refine ⟨0, by omega, rfl, ?_, (by repeat' (first | exact Bl.refl _ | with_reducible assumption | with_reducible refine Bl.drew_ ?_ | with_reducible refine Bl.drewN_ ?_ _ | with_reducible refine Bl.alloc_ ?_ _ | with_reducible refine Bl.trans_ ?_ (by assumption) | with_reducible refine Bl.trans_ ?_ (And.left (by assumption))))⟩
    have h := World.ownsRow_made (base := w.heap.size + 1) (e := 2) (size := 1) (w.alloc (.cells #[.int .i64 (m : Int), .slice A n c] 26)) #[] 0 (by simp) (by unfold maxLen; omega) rfl
    rw [World.size_alloc] at h
    exact h
  case round =>
    obtain ⟨k, hk, rfl, hown, hbl⟩ := hrel
    have hs := hbl.size
    simp only [World.size_alloc] at hs
    obtain ⟨q0, q1⟩ := box2 hbl
    have O := Lib.hid hown
    have HB := Lib.hid hbl
    clear hown hbl
    by_cases hlt : k < m
    · go_wp2_with (at_builtin; refine wpList_append_own _ rfl (.tmp 18) (.tmp 19) _ rfl (w.heap.size + 1) 2 i0 _ 1 8 Try.underlying38 I0.out I1.out I2.out I3.out rfl (by decide) _ (List.replicate k (-1)).length (csI (List.replicate k (-1))) rfl (World.ownsRow.alloc O.out _) ⟨wr.heap.size, 0, none⟩ 1 1 [.int .i64 (-1)] rfl rfl ?c0 (by simp [Value.oneCell']) ?c3 ?c4 ?c5 ?_)
      case c0 => 
        intro j u hj
        match j, hj with
        | 0, hj => simp at hj; subst hj; simp [Addr.add, go_sem]
        | (j + 1), hj => simp at hj
      case c3 => unfold maxLen; simp; omega
      case c4 => simp; omega
      case c5 => simp; omega
      intro v' w1 hown' hgrow _
      have O1 := Lib.hid (OwnN.snoc (V := List.replicate k (-1)) (x := -1) (n := k) (by simp) (by simpa using hown'))
      have hb1 : Bl (w.alloc (.cells #[.int .i64 (m : Int), .slice A n c] 26)) w1 := (HB.out.alloc_ _).grown_ hgrow (fun g hg => by have := (Owns.lt O.out g hg).1; simpa using this)
      have hb1' := Lib.hid hb1
      obtain ⟨q2, q3⟩ := box2 hb1
      clear hown' hgrow q0 q1 hb1
      go_wp2
      go_roundw
      case rel => exact ⟨k + 1, by omega, by go_num, by rw [List.replicate_succ']; exact O1.out, hb1'.out⟩
      case measure => simp [intOf]; omega
    · obtain rfl : k = m := by omega
      obtain ⟨g, c', rfl, hBg, hgl, hrow⟩ := O.out.toRow (by simp; omega)
      have hcl := hrow.cells
      have p0 := hcl.2 q (by simp; exact hqm)
      have p1 := hcl.1 q
      rw [List.getElem_replicate] at p0
      rw [List.length_replicate]
      have hq0 : (0 : Int) ≤ (q : Int) := by omega
      have hq1 : (q : Int) < (k : Int) := by omega
      have R0 := Lib.hid (show RowN (wr.setCell ⟨g, q, none⟩ (.int .i64 0)) g c' (startD k q) from by
        have := hrow.set q 0
        unfold startD
        simpa using this)
      have HB0 := Lib.hid (show Bl (w.alloc (.cells #[.int .i64 (k : Int), .slice A n c] 26)) (wr.setCell ⟨g, q, none⟩ (.int .i64 0)) from HB.out.set_ (by simp; omega) _)
      clear hcl hrow
      go_wp2_with fail
      clear p0 p1 q0 q1
      go_loopg [7] (sumF potF (startD k q) + 1) (fun t mo wr => ∃ (D : List Int) (b : Bool), mo = .bool b ∧ Hid (Rel k L q D) ∧ Hid (RowN wr g c' D) ∧ Hid (Bl (w.alloc (.cells #[.int .i64 (k : Int), .slice A n c] 26)) wr) ∧ IfT b (sumF potF D + 1 ≤ t) ∧ IfF b (IsDist k L q D))
      case atStart => exact ⟨startD k q, true, rfl, Lib.hid (Rel.start_ (by omega) (by omega)), R0, HB0, fun _ => Nat.le_refl _, fun h => nomatch h⟩
      case round =>
        obtain ⟨D, b, rfl, RE, RO, BB, po, di⟩ := hrel
        have PO := Lib.hid po
        have DI := Lib.hid di
        clear po di
        have hDl : D.length = k := by have := RE.out.len; simpa using this
        have HDL := Lib.hid hDl
        clear hDl
        cases b with
        | false =>
          go_wp2_with fail
          go_ret
          have hD := distL_of (arcsIn_of_ok HO.out) (by omega) (by omega) (by omega) (DI.out rfl)
          refine ⟨_, rfl, ?_, (Bl.alloc_ (Bl.refl w) _).trans_ BB.out⟩
          rw [← hD]
          have := RO.out.own (B := w.heap.size) (by omega)
          rw [HDL.out] at this
          exact this
        | true =>
          obtain ⟨q0, q1⟩ := box2 BB.out
          go_wp2_with fail
          clear q0 q1
          go_loopw [7, 8] (fun mo i wr => ∃ (j : Nat) (E : List Int) (b : Bool), j ≤ n ∧ i = .int .i64 j ∧ mo = .bool b ∧ Hid (Rel k L q E) ∧ Hid (RowN wr g c' E) ∧ Hid (Bl (w.alloc (.cells #[.int .i64 (k : Int), .slice A n c] 26)) wr) ∧
            IfT b (sumF potF E < sumF potF D) ∧ IfF b (E = D ∧ ∀ t (h : t < L.length), t < j → nearer D L[t] = false)) (fun _ i _ => n - (intOf i).toNat)
          case atStart => exact ⟨0, D, false, by omega, rfl, rfl, RE, RO, BB, (fun h => nomatch h), fun _ => ⟨rfl, fun t h h' => absurd h' (by omega)⟩⟩
          case round =>
            obtain ⟨j, E, b, hj, rfl, rfl, RE2, RO2, BB2, less, same⟩ := hrel
            have LESS := Lib.hid less
            have SAME := Lib.hid same
            clear less same
            obtain ⟨q0, q1⟩ := box2 BB2.out
            have hEl : E.length = k := by have := RE2.out.len; simpa using this
            have HEL := Lib.hid hEl
            clear hEl
            by_cases hlt : j < n
            · have hjl : j < L.length := by have := HN.out; omega
              have hbw : Bl w wr := (Bl.alloc_ (Bl.refl w) _).trans_ BB2.out
              obtain ⟨g1, o1, rfl, hg1, hc1⟩ := K1.out (by omega)
              obtain ⟨p1, p2, p3⟩ := hc1 j hjl
              rw [← (bcell hbw).1 _ _ hg1] at p1 p2 p3
              obtain ⟨a0, a1, a2, a3, a4, a5⟩ := arcsIn_of_ok HO.out L[j] (List.getElem_mem hjl)
              have AM := Lib.hid (show L[j] ∈ L from List.getElem_mem hjl)
              have hgl2 := RO2.out.lt
              have hg1l : g1 < wr.heap.size := Nat.lt_of_lt_of_le hg1 hbw.size
              clear hc1 hbw
              generalize hAA : L[j] = aa at *
              obtain ⟨x, y, z⟩ := aa
              simp only at a0 a1 a2 a3 a4 a5 p1 p2 p3
              obtain ⟨u, rfl⟩ : ∃ u : Nat, x = u := ⟨x.toNat, by omega⟩
              obtain ⟨v, rfl⟩ : ∃ v : Nat, y = v := ⟨y.toNat, by omega⟩
              have huk : u < k := by omega
              have hvk : v < k := by omega
              obtain ⟨hfz, hcl⟩ := RO2.out.cells
              have c1 := hcl u (by rw [HEL.out]; exact huk)
              have c2 := hcl v (by rw [HEL.out]; exact hvk)
              have f2 := hfz v
              clear hfz hcl
              have e1 : E[u]'(by rw [HEL.out]; exact huk) = dAt E (u : Int) := by simp [dAt, HEL.out, huk]
              have e2 : E[v]'(by rw [HEL.out]; exact hvk) = dAt E (v : Int) := by simp [dAt, HEL.out, hvk]
              rw [e1] at c1
              rw [e2] at c2
              have b1 := RE2.out.bound (by omega) (u : Int)
              have b2 := RE2.out.bound (by omega) (v : Int)
              have b3 := RE2.out.low (u : Int)
              have b4 := RE2.out.low (v : Int)
              have HA := Lib.hid hAA
              clear e1 e2 hAA
              have hstep : nearer E ((u : Int), (v : Int), z) = true → Rel k L q (E.set v (dAt E (u : Int) + z)) ∧ sumF potF (E.set v (dAt E (u : Int) + z)) < sumF potF E := fun h => by
                have := RE2.out.step (arcsIn_of_ok HO.out) (by omega) AM.out h
                simpa using this
              have HST := Lib.hid hstep
              clear hstep
              generalize hdu : dAt E (u : Int) = du at *
              generalize hdv : dAt E (v : Int) = dv at *
              have hnr : nearer E ((u : Int), (v : Int), z) = decide (0 ≤ du ∧ (dv < 0 ∨ du + z < dv)) := by
                unfold nearer
                simp only [hdu, hdv]
              have HNR := Lib.hid hnr
              have no : nearer E ((u : Int), (v : Int), z) = false → IfF b (E = D ∧ ∀ t (h : t < L.length), t < j + 1 → nearer D L[t] = false) := fun hn hb => by
                obtain ⟨e, h⟩ := SAME.out hb
                refine ⟨e, fun t ht htj => ?_⟩
                rcases Nat.lt_or_ge t j with h' | h'
                · exact h t ht h'
                · obtain rfl : t = j := by omega
                  rw [HA.out, ← e]
                  exact hn
              have NO := Lib.hid no
              clear hdu hdv hnr no AM HA
              have i1 : (0 : Int) ≤ (u : Int) := by omega
              have i2 : (u : Int) < (k : Int) := by omega
              have i3 : (0 : Int) ≤ (v : Int) := by omega
              have i4 : (v : Int) < (k : Int) := by omega
              by_cases hdn : du < 0
              · have hnf : nearer E ((u : Int), (v : Int), z) = false := by rw [HNR.out]; simp; omega
                have NF := Lib.hid (NO.out hnf)
                clear hnf
                go_wp2_with fail
                go_roundw
                case rel => exact ⟨j + 1, E, b, by omega, by go_num, rfl, RE2, Lib.hid (RO2.out.bl (by repeat' (first | exact Bl.refl _ | with_reducible assumption | with_reducible refine Bl.drew_ ?_ | with_reducible refine Bl.drewN_ ?_ _ | with_reducible refine Bl.alloc_ ?_ _ | with_reducible refine Bl.trans_ ?_ (by assumption) | with_reducible refine Bl.trans_ ?_ (And.left (by assumption))))), Lib.hid (BB2.out.trans_ (by repeat' (first | exact Bl.refl _ | with_reducible assumption | with_reducible refine Bl.drew_ ?_ | with_reducible refine Bl.drewN_ ?_ _ | with_reducible refine Bl.alloc_ ?_ _ | with_reducible refine Bl.trans_ ?_ (by assumption) | with_reducible refine Bl.trans_ ?_ (And.left (by assumption))))), LESS.out, NF.out⟩
                case measure => simp [intOf]; omega
              · by_cases hnv : dv < 0
                · have hyes : nearer E ((u : Int), (v : Int), z) = true := by rw [HNR.out]; simp; omega
                  obtain ⟨hre, hpo⟩ := HST.out hyes
                  have RE3 := Lib.hid hre
                  have LS3 := Lib.hid (show sumF potF (E.set v (du + z)) < sumF potF D from by
                    cases hb : b with
                    | true => exact Nat.lt_trans hpo (LESS.out hb)
                    | false => rw [← (SAME.out hb).1]; exact hpo)
                  have hw : IntKind.i64.wrap (du + z) = du + z := IntWalk.i64_in _ (by omega)
                  clear hyes hre hpo
                  go_wp2_with fail
                  go_quiet (fail)
                  clear hw
                  go_wp2_with fail
                  go_roundw
                  case rel => exact ⟨j + 1, E.set v (du + z), true, by omega, by go_num, rfl, RE3, Lib.hid (RowN.set (RO2.out.bl (by repeat' (first | exact Bl.refl _ | with_reducible assumption | with_reducible refine Bl.drew_ ?_ | with_reducible refine Bl.drewN_ ?_ _ | with_reducible refine Bl.alloc_ ?_ _ | with_reducible refine Bl.trans_ ?_ (by assumption) | with_reducible refine Bl.trans_ ?_ (And.left (by assumption))))) v _), Lib.hid (Bl.set_ (BB2.out.trans_ (by repeat' (first | exact Bl.refl _ | with_reducible assumption | with_reducible refine Bl.drew_ ?_ | with_reducible refine Bl.drewN_ ?_ _ | with_reducible refine Bl.alloc_ ?_ _ | with_reducible refine Bl.trans_ ?_ (by assumption) | with_reducible refine Bl.trans_ ?_ (And.left (by assumption))))) (by simp; omega) _), (fun _ => LS3.out), fun h => nomatch h⟩
                  case measure => simp [intOf]; omega
                · by_cases hln : du + z < dv
                  · have hyes : nearer E ((u : Int), (v : Int), z) = true := by rw [HNR.out]; simp; omega
                    obtain ⟨hre, hpo⟩ := HST.out hyes
                    have RE3 := Lib.hid hre
                    have LS3 := Lib.hid (show sumF potF (E.set v (du + z)) < sumF potF D from by
                      cases hb : b with
                      | true => exact Nat.lt_trans hpo (LESS.out hb)
                      | false => rw [← (SAME.out hb).1]; exact hpo)
                    have hw : IntKind.i64.wrap (du + z) = du + z := IntWalk.i64_in _ (by omega)
                    clear hyes hre hpo
                    go_wp2_with fail
                    go_quiet (fail)
                    clear hw
                    go_wp2_with fail
                    go_roundw
                    case rel => exact ⟨j + 1, E.set v (du + z), true, by omega, by go_num, rfl, RE3, Lib.hid (RowN.set (RO2.out.bl (by repeat' (first | exact Bl.refl _ | with_reducible assumption | with_reducible refine Bl.drew_ ?_ | with_reducible refine Bl.drewN_ ?_ _ | with_reducible refine Bl.alloc_ ?_ _ | with_reducible refine Bl.trans_ ?_ (by assumption) | with_reducible refine Bl.trans_ ?_ (And.left (by assumption))))) v _), Lib.hid (Bl.set_ (BB2.out.trans_ (by repeat' (first | exact Bl.refl _ | with_reducible assumption | with_reducible refine Bl.drew_ ?_ | with_reducible refine Bl.drewN_ ?_ _ | with_reducible refine Bl.alloc_ ?_ _ | with_reducible refine Bl.trans_ ?_ (by assumption) | with_reducible refine Bl.trans_ ?_ (And.left (by assumption))))) (by simp; omega) _), (fun _ => LS3.out), fun h => nomatch h⟩
                    case measure => simp [intOf]; omega
                  · have hnf : nearer E ((u : Int), (v : Int), z) = false := by rw [HNR.out]; simp; omega
                    have NF := Lib.hid (NO.out hnf)
                    have hw : IntKind.i64.wrap (du + z) = du + z := IntWalk.i64_in _ (by omega)
                    clear hnf
                    go_wp2_with fail
                    go_quiet (fail)
                    clear hw
                    go_wp2_with fail
                    go_roundw
                    case rel => exact ⟨j + 1, E, b, by omega, by go_num, rfl, RE2, Lib.hid (RO2.out.bl (by repeat' (first | exact Bl.refl _ | with_reducible assumption | with_reducible refine Bl.drew_ ?_ | with_reducible refine Bl.drewN_ ?_ _ | with_reducible refine Bl.alloc_ ?_ _ | with_reducible refine Bl.trans_ ?_ (by assumption) | with_reducible refine Bl.trans_ ?_ (And.left (by assumption))))), Lib.hid (BB2.out.trans_ (by repeat' (first | exact Bl.refl _ | with_reducible assumption | with_reducible refine Bl.drew_ ?_ | with_reducible refine Bl.drewN_ ?_ _ | with_reducible refine Bl.alloc_ ?_ _ | with_reducible refine Bl.trans_ ?_ (by assumption) | with_reducible refine Bl.trans_ ?_ (And.left (by assumption))))), LESS.out, NF.out⟩
                    case measure => simp [intOf]; omega
            · go_wp2_with fail
              go_roundg (if b = true then sumF potF E + 1 else 0)
              case rel =>
                refine ⟨E, b, rfl, RE2, RO2, BB2, fun h => by rw [h]; simp, fun h => ?_⟩
                obtain ⟨e, hx⟩ := SAME.out h
                refine RE2.out.done (arcsIn_of_ok HO.out) fun a ha => ?_
                obtain ⟨t, ht, rfl⟩ := List.mem_iff_getElem.1 ha
                rw [e]
                exact hx t ht (by have := HN.out; omega)
              case measure =>
                have := PO.out rfl
                cases hb : b with
                | true => have := LESS.out hb; simp; omega
                | false => simp; omega

end Go.Proofs.Ytdbjcojlcddhdaa

set_option linter.unusedSimpArgs false
set_option linter.unusedVariables false
namespace Go.Proofs.Ytdbjcojlcddhdaa
open Go.RowKit Go.Shelf
attribute [local go_sem] Oper.semAt_some

set_option maxHeartbeats 400000 in
theorem guidedFrom_any (N s : Int) (A : Option Addr) (n c : Nat) (f : Value) (w : World) (hf : f = .func (.func 122) #[] #[]) :
    Calls Try.prog 121 #[.agg #[.int .i64 N, .slice A n c], .int .i64 s, f] w fun e w' =>
      e = .returned (.func (.func 129) #[] #[.pointer (some ⟨w.heap.size + 2, 0, none⟩), .pointer (some ⟨w.heap.size + 1, 0, none⟩), .pointer (some ⟨w.heap.size, 0, none⟩)]) ∧
      w' = ((w.alloc (.cells #[.int .i64 N, .slice A n c] 26)).alloc (.cells #[.int .i64 s] 2)).alloc (.cells #[.func (.func 122) #[] #[]] 135) := by
  subst hf
  go_enter Try.func121, Try.ntmps121
  go_wp2
  go_ret
  exact ⟨rfl, rfl⟩
set_option maxHeartbeats 400000 in
theorem nearestFrom_any (N s : Int) (A : Option Addr) (n c : Nat) (w : World) :
    Calls Try.prog 98 #[.agg #[.int .i64 N, .slice A n c], .int .i64 s] w fun e w' =>
      e = .returned (.func (.func 129) #[] #[.pointer (some ⟨w.heap.size + 3, 0, none⟩), .pointer (some ⟨w.heap.size + 2, 0, none⟩), .pointer (some ⟨w.heap.size + 1, 0, none⟩)]) ∧
      w' = (((w.alloc (.cells #[.int .i64 N, .slice A n c] 26)).alloc (.cells #[.int .i64 N, .slice A n c] 26)).alloc (.cells #[.int .i64 s] 2)).alloc (.cells #[.func (.func 122) #[] #[]] 135) := by
  go_enter Try.func98, Try.ntmps98
  go_wp2_with fail
  refine (guidedFrom_any N s A n c _ _ rfl).mono ?_
  rintro e w1 ⟨rfl, rfl⟩
  go_wp2
  go_ret
  exact ⟨by simp, rfl⟩

set_option maxRecDepth 100000 in
set_option maxHeartbeats 4000000 in
theorem distances_any (N s : Int) (A : Option Addr) (n c : Nat) (L : List Arc3) (hn : n = L.length) (hc : n ≤ c) (ho : okB N L = true) (h0 : 0 ≤ s) (h1 : s < N) (w : World) (H1 : ArcsAt w w.heap.size A L) :
    Calls Try.prog 73 #[.agg #[.int .i64 N, .slice A n c], .int .i64 s] w fun e w' => ∃ E : List Int, e = .returned (.agg (E.map (Value.int .i64)).toArray) ∧ E.length = 24 ∧ E.take N.toNat = distL N L s ∧ Bl w w' := by
  have K1 := Lib.hid H1
  have HN := Lib.hid hn
  have HO := Lib.hid ho
  clear H1 hn ho
  refine (callsIn_wide (n := 0)).1 ?_
  refine callsIn_of_wp_marks Try.func73 rfl trivial ?_ rfl
  simp only [Try.ntmps73, List.size_toArray, List.length_cons, List.length_nil, Nat.reduceAdd, Nat.reduceSub, Array.replicate_succ, Array.replicate_zero, List.push_toArray, List.append_toArray, List.nil_append, List.cons_append]
  gi_wp2_with fail
  have hN24 := (okB_elim HO.out).2.1
  gi_loopw [8] (fun i wr => ∃ j : Nat, j ≤ 24 ∧ i = .int .i64 j ∧ Bl ((w.alloc (.cells #[.int .i64 N, .slice A n c] 26)).alloc (.cells #[.int .i64 0, .int .i64 0, .int .i64 0, .int .i64 0, .int .i64 0, .int .i64 0, .int .i64 0, .int .i64 0, .int .i64 0, .int .i64 0, .int .i64 0, .int .i64 0, .int .i64 0, .int .i64 0, .int .i64 0, .int .i64 0, .int .i64 0, .int .i64 0, .int .i64 0, .int .i64 0, .int .i64 0, .int .i64 0, .int .i64 0, .int .i64 0] 83)) wr ∧
      ∃ E, NumsAt wr (w.heap.size + 2) E ∧ ∀ i (h : i < E.length), i < j → E[i] = -1) (fun i _ => 24 - (intOf i).toNat)
  case atStart =>
    refine ⟨0, by omega, rfl, (Bl.refl _).alloc_ _, List.replicate 24 0, ⟨by simp, by simp, fun i hi => ?_, fun i hi => ?_⟩, fun i h h' => absurd h' (by omega)⟩
    · rw [List.length_replicate] at hi
      rw [List.getElem_replicate]
      match i, hi with
      | 0, _ | 1, _ | 2, _ | 3, _ | 4, _ | 5, _ | 6, _ | 7, _ | 8, _ | 9, _ | 10, _ | 11, _ | 12, _ | 13, _ | 14, _ | 15, _ | 16, _ | 17, _ | 18, _ | 19, _ | 20, _ | 21, _ | 22, _ | 23, _ => simp [go_sem]
      | (k + 24), h => exact absurd h (by omega)
    · simp [go_sem]
  case round =>
    obtain ⟨j, hj, rfl, hbl, E, hE, hneg⟩ := hrel
    have HE := Lib.hid hE
    have NG := Lib.hid hneg
    have hbs := hbl.size
    have HB := Lib.hid hbl
    simp only [World.size_alloc] at hbs
    have hdl := hE.lt
    clear hneg hbl
    by_cases hlt : j < 24
    · have q0 := hE.cell j (by rw [hE.len]; exact hlt)
      have q1 := hE.free j hlt
      generalize E[j]'(by rw [hE.len]; exact hlt) = ej at q0
      clear hE
      gi_wp2_with fail
      go_roundw
      case rel =>
        refine ⟨j + 1, by omega, by go_num, HB.out.set_ (by simp) _, E.set j (-1), HE.out.set (-1), fun i h hi => ?_⟩
        rw [List.getElem_set]
        split
        · rfl
        · exact NG.out i (by simpa using h) (by omega)
      case measure => simp [intOf]; omega
    · have hE0 : E = keysL 24 [] := List.ext_getElem (by rw [hE.len, keysL_len]) fun i h1 h2 => by
        rw [NG.out i h1 (by have := hE.len; omega)]
        simp [keysL, keyOf]
      have HE0 := Lib.hid hE0
      obtain ⟨hgc0, hgc1⟩ : wr.cell? ⟨w.heap.size, 0, none⟩ = some (.int .i64 N) ∧ wr.cell? ⟨w.heap.size, 1, none⟩ = some (.slice A n c) := by
        have hx := (bcell HB.out).1
        exact ⟨(hx _ _ (by simp; omega)).trans (by simp [go_sem]), (hx _ _ (by simp; omega)).trans (by simp [go_sem])⟩
      clear hE hE0
      gi_wp2_with fail
      refine ⟨trivial, rfl, CallsIn.mono (callsIn_wide.2 (nearestFrom_any N s A n c _)) ?_⟩
      rintro e w3 ⟨rfl, hw3⟩
      have HW3 := Lib.hid hw3
      clear hw3
      gi_wp2_with fail
      have hs3 : w3.heap.size = wr.heap.size + 4 := by rw [HW3.out]; simp
      have hb3 : Bl wr w3 := by rw [HW3.out]; exact ((((Bl.refl wr).alloc_ _).alloc_ _).alloc_ _).alloc_ _
      have hbw : Bl w wr := (((Bl.refl w).alloc_ _).alloc_ _).trans_ HB.out
      have hin : NIn w3 (wr.heap.size + 3) (wr.heap.size + 2) (wr.heap.size + 1) N s A n c L := by
        refine ⟨?_, ?_, ?_, ?_, (K1.out.bl hbw).bl hb3⟩ <;> (rw [HW3.out]; simp [go_sem])
      have hn0 : NumsAt w3 (w.heap.size + 2) (keysL 24 []) := by rw [← HE0.out]; exact HE.out.bl hb3
      have HN0 := Lib.hid hn0
      clear hgc0 hgc1
      refine wpIn_range (gf := 129) (lb := #[.pointer (some ⟨wr.heap.size + 3, 0, none⟩), .pointer (some ⟨wr.heap.size + 2, 0, none⟩), .pointer (some ⟨wr.heap.size + 1, 0, none⟩)]) ?e1 ?e2
        (near_stops N s A n c (wr.heap.size + 3) (wr.heap.size + 2) (wr.heap.size + 1) L HN.out hc HO.out h0 h1 w3 hin) (Bl.refl _) (fun i hi => inBlocks_lt hin hi) ?e3
        (fun pre K W' => (∀ i, K i ↔ i = w.heap.size + 2) ∧ NumsAt W' (w.heap.size + 2) (keysL 24 pre))
        (fun _ _ _ _ => False)
        (fun pre x a K W' => ∃ xb, (∀ i, K i ↔ (i = w.heap.size + 2 ∨ i = xb)) ∧ NumsAt W' (w.heap.size + 2) (keysL 24 pre) ∧ (xb ≠ w.heap.size + 2 ∧ W'.cell? ⟨xb, 0, none⟩ = some (.int .i64 x.1) ∧ W'.cell? ⟨xb, 1, none⟩ = some (.int .i64 x.2)) ∧
          a = { tmps := #[.agg #[.int .i64 N, .slice A n c], .int .i64 s, .pointer (some ⟨w.heap.size, 0, none⟩), undef, .pointer (some ⟨w.heap.size + 1, 0, none⟩), .pointer (some ⟨w.heap.size + 1 + 1, 0, none⟩), u6, .pointer (some ⟨xb, 0, none⟩), .int .i64 j, .bool (decide ((j : Int) < 24)), u10, u11, u12, u13,
            .agg #[.int .i64 N, .slice A n c], .int .i64 s, .func (.func 129) #[] #[.pointer (some ⟨wr.heap.size + 3, 0, none⟩), .pointer (some ⟨wr.heap.size + 2, 0, none⟩), .pointer (some ⟨wr.heap.size + 1, 0, none⟩)], .agg #[.int .i64 x.1, .int .i64 x.2], undef, undef, undef, undef, undef, undef], defers := [] })
        (fun i => i = w.heap.size + 2) ?hK0 ?hI (fun _ _ _ _ _ h _ => h) ?hM ?hlt ⟨fun i => Iff.rfl, hn0⟩ ?assign ?body ?done (fun _ _ _ _ _ _ _ h _ _ _ => h.elim)
      case e1 => rfl
      case e2 => exact enters_of Try.func129 (by kernel_rfl) rfl
      case e3 => exact fun x => rfl
      case hK0 =>
        rintro i rfl hi
        have hd := HE.out.lt
        rcases hi with h | h | h | ⟨hl, h⟩
        · omega
        · omega
        · omega
        · obtain ⟨g, off, rfl, hg, -⟩ := K1.out hl
          have : g = w.heap.size + 2 := by simpa [blockOf] using h
          omega
      case hI =>
        rintro pre K X Y ⟨hk, hnum⟩ ht
        exact ⟨hk, hnum.turn ht (fun h => h ((hk _).2 rfl))⟩
      case hM =>
        rintro pre x a K X Y ⟨xb, hk, hnum, ⟨hne, hc0, hc1⟩, he⟩ ht
        have hx := World.block_lt_of_cell? _ _ hc0
        have hs := fun o => (ht.cells hx (fun h => h ((hk _).2 (.inr rfl))) o).1
        exact ⟨xb, hk, hnum.turn ht (fun h => h ((hk _).2 (.inl rfl))), ⟨hne, (hs 0).trans hc0, (hs 1).trans hc1⟩, he⟩
      case hlt =>
        rintro pre K X ⟨hk, hnum⟩ i hi
        rw [(hk i).1 hi]
        exact hnum.lt
      case assign =>
        rintro l pre ⟨x, y⟩ K W R ⟨hk, hnum⟩ hpre hR
        have HK := Lib.hid hk
        have HNM := Lib.hid hnum
        have HR := Lib.hid hR
        clear hk hnum hpre hR hs3 hb3 hbw hin hn0
        dsimp only [encI]
        gi_wp2_with fail
        have hlt := HNM.out.lt
        refine HR.out _ (fun i => i = w.heap.size + 2 ∨ i = W.heap.size) _ ⟨Turn.of_bl (by repeat' (first | exact Bl.refl _ | with_reducible assumption | with_reducible refine Bl.drew_ ?_ | with_reducible refine Bl.drewN_ ?_ _ | with_reducible refine Bl.alloc_ ?_ _ | with_reducible refine Bl.trans_ ?_ (by assumption) | with_reducible refine Bl.trans_ ?_ (And.left (by assumption)))), fun i hi => hi.imp (fun h => (HK.out i).2 h) (fun h => by rw [h]; exact Nat.le_refl _)⟩ ⟨W.heap.size, fun i => Iff.rfl, HNM.out.bl (by repeat' (first | exact Bl.refl _ | with_reducible assumption | with_reducible refine Bl.drew_ ?_ | with_reducible refine Bl.drewN_ ?_ _ | with_reducible refine Bl.alloc_ ?_ _ | with_reducible refine Bl.trans_ ?_ (by assumption) | with_reducible refine Bl.trans_ ?_ (And.left (by assumption)))), ⟨by omega, by simp [go_sem], by simp [go_sem]⟩, rfl⟩
      case body =>
        rintro l pre ⟨x, y⟩ a₁ K W ⟨xb, hk, hnum, ⟨hne, hc0, hc1⟩, rfl⟩ ⟨Z, hZ⟩
        obtain ⟨f1, f2, f3, -, -⟩ := NextFacts (arcsIn_of_ok HO.out) hN24 hZ
        simp only at f1 f2 f3
        obtain ⟨u, rfl⟩ : ∃ u : Nat, y = u := ⟨y.toNat, by omega⟩
        have hu : u < 24 := by omega
        have hu0 : (0 : Int) ≤ (u : Int) := by omega
        have hu1 : (u : Int) < 24 := by omega
        have hkl := keysL_len 24 pre
        have q0 := hnum.cell u (by rw [hkl]; exact hu)
        have q1 := hnum.free u hu
        generalize (keysL 24 pre)[u]'(by rw [hkl]; exact hu) = ej at q0
        have hdl' := hnum.lt
        have HK := Lib.hid hk
        have HNM := Lib.hid hnum
        have F3 := Lib.hid f3
        clear hk hnum f1 f2 f3 hs3 hb3 hbw hin hn0 hZ hkl
        simp only at hc0 hc1
        gi_wp2_with fail
        refine ⟨fun i => i = w.heap.size + 2, ⟨Turn.set (p := ⟨w.heap.size + 2, u, none⟩) (Turn.refl K W) (.inl ((HK.out _).2 (.inl rfl))) _, fun i hi => .inl ((HK.out i).2 (.inl hi))⟩, fun i => Iff.rfl, ?_⟩
        have e : keysL 24 (pre ++ [(x, (u : Int))]) = (keysL 24 pre).set u x := keysL_snoc (x := (x, (u : Int))) F3.out hu0
        rw [e]
        exact HNM.out.set x
      case done =>
        rintro D xs K W hD hall ⟨hk, hnum⟩ hT hKD hdef
        have HK := Lib.hid hk
        have HNM := Lib.hid hnum
        have HT := Lib.hid hT
        have HA := Lib.hid hall
        have HD := Lib.hid hdef
        clear hk hnum hT hall hdef hs3 hb3 hbw hin hn0
        have hrb : W.there (w.heap.size + 1) 0 24 := by
          have hT2 := HT.out
          refine there_of_cells fun i hi => ?_
          have hbs' := HB.out.size
          simp only [World.size_alloc] at hbs'
          have hl3 : w.heap.size + 1 < w3.heap.size := by rw [HW3.out]; simp; omega
          obtain ⟨x1, x2⟩ := HT.out.cells hl3 (fun h => by omega) i
          obtain ⟨y1, y2⟩ := bcell HB.out
          have hl0 : w.heap.size + 1 < wr.heap.size := by omega
          have z1 : w3.cell? ⟨w.heap.size + 1, i, none⟩ = wr.cell? ⟨w.heap.size + 1, i, none⟩ := by rw [HW3.out]; exact (bcell (show Bl wr _ from (by repeat' (first | exact Bl.refl _ | with_reducible assumption | with_reducible refine Bl.drew_ ?_ | with_reducible refine Bl.drewN_ ?_ _ | with_reducible refine Bl.alloc_ ?_ _ | with_reducible refine Bl.trans_ ?_ (by assumption) | with_reducible refine Bl.trans_ ?_ (And.left (by assumption)))))).1 _ _ hl0
          have z2 : w3.frozen? ⟨w.heap.size + 1, i, none⟩ = wr.frozen? ⟨w.heap.size + 1, i, none⟩ := by rw [HW3.out]; exact (bcell (show Bl wr _ from (by repeat' (first | exact Bl.refl _ | with_reducible assumption | with_reducible refine Bl.drew_ ?_ | with_reducible refine Bl.drewN_ ?_ _ | with_reducible refine Bl.alloc_ ?_ _ | with_reducible refine Bl.trans_ ?_ (by assumption) | with_reducible refine Bl.trans_ ?_ (And.left (by assumption)))))).2 _ _ hl0
          rw [x1, x2, z1, z2, y1 _ _ (by simp), y2 _ _ (by simp)]
          match i, hi with
          | 0, _ | 1, _ | 2, _ | 3, _ | 4, _ | 5, _ | 6, _ | 7, _ | 8, _ | 9, _ | 10, _ | 11, _ | 12, _ | 13, _ | 14, _ | 15, _ | 16, _ | 17, _ | 18, _ | 19, _ | 20, _ | 21, _ | 22, _ | 23, _ => simp [go_sem]
          | (k + 24), h => exact absurd h (by omega)
        have HRB := Lib.hid hrb
        have hsz : (Try.prog.info? 83).map (·.size) = some 24 := by kernel_rfl
        have HSZ := Lib.hid hsz
        clear hrb hsz
        gi_wp2_with (first | (refine wpListIn_load_mid rfl 83 (.tmp 5) rfl (w.heap.size + 2) 0 rfl (csI (keysL 24 xs)) _ HNM.out.range Try.underlying83 rfl (by rw [csI_len, keysL_len]; exact HSZ.out) ?_) | (refine wpListIn_store_mid rfl 83 (.tmp 4) (.tmp 23) rfl (w.heap.size + 1) 0 (csI (keysL 24 xs)).toArray rfl rfl ?c1 ?c2 (csI_one _) ?_))
        case c1 => simpa [csI_len, keysL_len] using HRB.out
        case c2 => simpa [csI_len, keysL_len] using HSZ.out
        have hl3 : w.heap.size + 1 < w3.heap.size := by
          have := HB.out.size
          rw [HW3.out]
          simp only [World.size_alloc] at this ⊢
          omega
        have hDl : D < W.heap.size := (Array.getElem?_eq_some_iff.1 HD.out).1
        have hts : Turn (fun i => i = w.heap.size + 1) W (W.setCells (w.heap.size + 1) 0 (csI (keysL 24 xs))) := Turn.setCells_ (S := fun i => i = w.heap.size + 1) (w.heap.size + 1) rfl _ _ _ (Turn.refl _ _)
        have hD2 := (hts.block D hDl (by omega)).trans HD.out
        have hnums := NumsAt.stored (keysL_len 24 xs) (Nat.lt_of_lt_of_le hl3 HT.out.size) HRB.out
        have hnums2 := hnums.turn (turn_put (fun i => i = D) _ (.deferred none) rfl) (show ¬ (w.heap.size + 1 = D) by omega)
        refine ⟨by simp, .inl ⟨_, _, rfl, run_takeDeferred hD2, ?_⟩⟩
        refine ⟨_, results_cell_mid rfl _ _ (w.heap.size + 1) (csI (keysL 24 xs)) _ rfl hnums2.range Try.underlying83 rfl (by rw [csI_len, keysL_len]; exact HSZ.out), ?_⟩
        refine ⟨keysL 24 xs, rfl, keysL_len _ _, ?_, ?_⟩
        · rw [keysL_take (by omega)]
          exact HA.out.keys (arcsIn_of_ok HO.out) hN24
        · have hb3 : Bl w w3 := by
            rw [HW3.out]
            exact ((((Bl.refl w).alloc_ _).alloc_ _).trans_ HB.out).trans_ (((((Bl.refl wr).alloc_ _).alloc_ _).alloc_ _).alloc_ _)
          have hbW : Bl w W := Turn.to_bl hb3 HT.out (fun i hi => by rw [hi]; omega)
          have h4 := Bl.setCells_ (w.heap.size + 1) (by omega) (csI (keysL 24 xs)) 0 W hbW
          exact Turn.to_bl h4 (turn_put (fun i => i = D) _ (.deferred none) rfl) (fun i hi => by rw [hi]; omega)

end Go.Proofs.Ytdbjcojlcddhdaa

set_option linter.unusedSimpArgs false
set_option linter.unusedVariables false
namespace Go.Proofs.Ytdbjcojlcddhdaa
open Go.RowKit

/-- How far all nodes are from s; none, where there is no such node or the graph is not right. -/
def distFromL (N : Int) (L : List Arc3) (s : Int) : List Int := if has1 N L s = true then distL N L s else []
def distOfI (N : Int) (L : List Arc3) (s t : Int) : Int := if has2 N L s t = true then dAt (distL N L s) t else -1
theorem has1_of {N s : Int} {L : List Arc3} (h : has1 N L s = true) : okB N L = true ∧ 0 ≤ s ∧ s < N := by simpa [has1] using h
theorem has2_of {N s t : Int} {L : List Arc3} (h : has2 N L s t = true) : okB N L = true ∧ (0 ≤ s ∧ s < N) ∧ (0 ≤ t ∧ t < N) := by simpa [has2] using h
theorem distL_len {N s : Int} {L : List Arc3} (ho : okB N L = true) (h0 : 0 ≤ s) (h1 : s < N) : (distL N L s).length = N.toNat :=
  (distL_is (arcsIn_of_ok ho) (okB_elim ho).2.1 h0 h1).len
theorem distL_top {N s : Int} {L : List Arc3} (ho : okB N L = true) (h0 : 0 ≤ s) (h1 : s < N) (v : Int) : -1 ≤ dAt (distL N L s) v ∧ dAt (distL N L s) v ≤ 23000 := by
  have h := distL_is (arcsIn_of_ok ho) (okB_elim ho).2.1 h0 h1
  exact ⟨h.low v, h.top (arcsIn_of_ok ho) (okB_elim ho).2.1 h0 h1 v⟩

theorem box1b {w wx : World} {o : Obj} {a : Value} {t : TypeId} (h : Bl ((w.alloc o).alloc (.cells #[a] t)) wx) : wx.cell? ⟨w.heap.size + 1, 0, none⟩ = some a := by
  have hc := (bcell h).1
  rw [hc _ _ (by simp)]; simp [go_sem]

theorem there_new (w : World) (t : TypeId) : (w.alloc (.cells #[.int .i64 0, .int .i64 0, .int .i64 0, .int .i64 0, .int .i64 0, .int .i64 0, .int .i64 0, .int .i64 0, .int .i64 0, .int .i64 0, .int .i64 0, .int .i64 0, .int .i64 0, .int .i64 0, .int .i64 0, .int .i64 0, .int .i64 0, .int .i64 0, .int .i64 0, .int .i64 0, .int .i64 0, .int .i64 0, .int .i64 0, .int .i64 0] t)).there w.heap.size 0 24 := by
  refine there_of_cells fun i hi => ?_
  match i, hi with
  | 0, _ | 1, _ | 2, _ | 3, _ | 4, _ | 5, _ | 6, _ | 7, _ | 8, _ | 9, _ | 10, _ | 11, _ | 12, _ | 13, _ | 14, _ | 15, _ | 16, _ | 17, _ | 18, _ | 19, _ | 20, _ | 21, _ | 22, _ | 23, _ => simp [go_sem]
  | (k + 24), h => exact absurd h (by omega)
theorem size24 : (Try.prog.info? 83).map (·.size) = some 24 := by kernel_rfl

theorem index24 (E : List Int) (hE : E.length = 24) (u : Nat) (hu : u < 24) (w : World) : (Instr.index 83 (.agg (E.map (Value.int .i64)).toArray) (.int .i64 (u : Int))).run Try.prog w = .ok (.int .i64 (dAt E u)) w := by
  have h1 : (0 : Int) ≤ (u : Int) ∧ (u : Int) < 24 := by omega
  have hz : (Go.sizeOf 2).run Try.prog w = .ok 1 w := by kernel_rfl
  have ha : (Go.isAgg 2).run Try.prog w = .ok false w := by kernel_rfl
  have hg : E[u]?.getD (-1) = E[u] := by simp [hE, hu]
  unfold Instr.index
  simp [Sem.run_bind, asIntOf, run_underlying Try.underlying83, Result.andThen, h1, hz, ha, part, dAt, hE, hu]

set_option maxRecDepth 100000 in
set_option maxHeartbeats 1000000 in
theorem implDistOf_any (N s t : Int) (A : Option Addr) (n c : Nat) (L : List Arc3) (hn : n = L.length) (hc : n ≤ c) (w : World) (hm : n ≤ 1048576) (H1 : ArcsAt w w.heap.size A L) :
    Calls Try.prog 28 #[.agg #[.int .i64 N, .slice A n c], .int .i64 s, .int .i64 t] w fun e w' => e = .returned (.int .i64 (distOfI N L s t)) ∧ Bl w w' := by
  have K1 := Lib.hid H1
  have HN := Lib.hid hn
  clear H1 hn
  cases hh : has2 N L s t with
  | false =>
    have HH := Lib.hid hh
    clear hh
    go_enter Try.func28, Try.ntmps28
    go_wp2_with fail
    refine (hasNodes_2 N s t A n c L HN.out (w.heap.size + 1) 2 _ (by omega) (K1.out.bl (by repeat' (first | exact Bl.refl _ | with_reducible assumption | with_reducible refine Bl.drew_ ?_ | with_reducible refine Bl.drewN_ ?_ _ | with_reducible refine Bl.alloc_ ?_ _ | with_reducible refine Bl.trans_ ?_ (by assumption) | with_reducible refine Bl.trans_ ?_ (And.left (by assumption))))) (by simp) (by simp [go_sem]) (by simp [go_sem])).mono ?_
    rintro e w1 ⟨rfl, hb1⟩
    rw [HH.out]
    go_wp2
    go_ret
    exact ⟨ret_int (by unfold distOfI; rw [if_neg (by rw [HH.out]; simp)]), (by repeat' (first | exact Bl.refl _ | with_reducible assumption | with_reducible refine Bl.drew_ ?_ | with_reducible refine Bl.drewN_ ?_ _ | with_reducible refine Bl.alloc_ ?_ _ | with_reducible refine Bl.trans_ ?_ (by assumption) | with_reducible refine Bl.trans_ ?_ (And.left (by assumption))))⟩
  | true =>
    have HH := Lib.hid hh
    obtain ⟨ho, ⟨hs0, hs1⟩, ht0, ht1⟩ := has2_of hh
    have hN24 := (okB_elim ho).2.1
    have HO := Lib.hid ho
    obtain ⟨u, rfl⟩ : ∃ u : Nat, t = u := ⟨t.toNat, by omega⟩
    clear hh ho
    go_enter Try.func28, Try.ntmps28
    go_wp2_with fail
    refine (hasNodes_2 N s u A n c L HN.out (w.heap.size + 1) 2 _ (by omega) (K1.out.bl (by repeat' (first | exact Bl.refl _ | with_reducible assumption | with_reducible refine Bl.drew_ ?_ | with_reducible refine Bl.drewN_ ?_ _ | with_reducible refine Bl.alloc_ ?_ _ | with_reducible refine Bl.trans_ ?_ (by assumption) | with_reducible refine Bl.trans_ ?_ (And.left (by assumption))))) (by simp) (by simp [go_sem]) (by simp [go_sem])).mono ?_
    rintro e w1 ⟨rfl, hb1⟩
    rw [HH.out]
    have hx := (bcell hb1).1
    have q0 : w1.cell? ⟨w.heap.size, 0, none⟩ = some (.int .i64 N) := (hx _ _ (by simp; omega)).trans (by simp [go_sem])
    have q1 : w1.cell? ⟨w.heap.size, 1, none⟩ = some (.slice A n c) := (hx _ _ (by simp; omega)).trans (by simp [go_sem])
    have hbw : Bl w w1 := (((Bl.refl w).alloc_ _).alloc_ _).trans_ hb1
    clear hx hb1
    go_wp2_with fail
    refine (distances_any N s A n c L HN.out hc HO.out hs0 hs1 _ (K1.out.bl hbw)).mono ?_
    rintro e w2 ⟨E, rfl, hE, hEd, hb2⟩
    have EL := Lib.hid hE
    have ED := Lib.hid hEd
    clear hE hEd q0 q1
    have hix := index24 E EL.out u (by omega) w2
    have hd : dAt E (u : Int) = distOfI N L s u := by
      unfold distOfI
      rw [if_pos HH.out, ← ED.out]
      unfold dAt
      simp only [List.getD_eq_getElem?_getD]
      rw [List.getElem?_take, if_pos (by omega)]
    rw [hd] at hix
    clear hd
    go_wp2
    go_ret
    exact ⟨ret_int rfl, hbw.trans_ hb2⟩

set_option maxRecDepth 100000 in
set_option maxHeartbeats 2000000 in
theorem implDistFrom_any (N s : Int) (A : Option Addr) (n c : Nat) (L : List Arc3) (hn : n = L.length) (hc : n ≤ c) (w : World) (hm : n ≤ 1048576) (H1 : ArcsAt w w.heap.size A L) :
    Calls Try.prog 29 #[.agg #[.int .i64 N, .slice A n c], .int .i64 s] w (NumsMade (distFromL N L s) w) := by
  obtain ⟨i0, hi, hz0, hz1, hz2⟩ := info_parts infoInt
  have I0 := Lib.hid hi
  have I1 := Lib.hid hz0
  have I2 := Lib.hid hz1
  have I3 := Lib.hid hz2
  have K1 := Lib.hid H1
  have HN := Lib.hid hn
  clear H1 hn hi hz0 hz1 hz2
  cases hh : has1 N L s with
  | false =>
    have HH := Lib.hid hh
    clear hh
    go_enter Try.func29, Try.ntmps29
    go_wp2_with fail
    refine (hasNodes_1 N s A n c L HN.out (w.heap.size + 1) 1 _ (by omega) (K1.out.bl (by repeat' (first | exact Bl.refl _ | with_reducible assumption | with_reducible refine Bl.drew_ ?_ | with_reducible refine Bl.drewN_ ?_ _ | with_reducible refine Bl.alloc_ ?_ _ | with_reducible refine Bl.trans_ ?_ (by assumption) | with_reducible refine Bl.trans_ ?_ (And.left (by assumption))))) (by simp) (by simp [go_sem])).mono ?_
    rintro e w1 ⟨rfl, hb1⟩
    rw [HH.out]
    go_wp2
    go_ret
    exact ⟨_, rfl, by unfold distFromL; rw [if_neg (by rw [HH.out]; simp)]; exact OwnN.nil_ _ _, (by repeat' (first | exact Bl.refl _ | with_reducible assumption | with_reducible refine Bl.drew_ ?_ | with_reducible refine Bl.drewN_ ?_ _ | with_reducible refine Bl.alloc_ ?_ _ | with_reducible refine Bl.trans_ ?_ (by assumption) | with_reducible refine Bl.trans_ ?_ (And.left (by assumption))))⟩
  | true =>
    have HH := Lib.hid hh
    obtain ⟨ho, hs0, hs1⟩ := has1_of hh
    have hN24 := (okB_elim ho).2.1
    have HO := Lib.hid ho
    obtain ⟨k, rfl⟩ : ∃ k : Nat, N = k := ⟨N.toNat, by omega⟩
    clear hh ho
    go_enter Try.func29, Try.ntmps29
    go_wp2_with fail
    refine (hasNodes_1 k s A n c L HN.out (w.heap.size + 1) 1 _ (by omega) (K1.out.bl (by repeat' (first | exact Bl.refl _ | with_reducible assumption | with_reducible refine Bl.drew_ ?_ | with_reducible refine Bl.drewN_ ?_ _ | with_reducible refine Bl.alloc_ ?_ _ | with_reducible refine Bl.trans_ ?_ (by assumption) | with_reducible refine Bl.trans_ ?_ (And.left (by assumption))))) (by simp) (by simp [go_sem])).mono ?_
    rintro e w1 ⟨rfl, hb1⟩
    rw [HH.out]
    have hx := (bcell hb1).1
    have q0 : w1.cell? ⟨w.heap.size, 0, none⟩ = some (.int .i64 (k : Int)) := (hx _ _ (by simp; omega)).trans (by simp [go_sem])
    have q1 : w1.cell? ⟨w.heap.size, 1, none⟩ = some (.slice A n c) := (hx _ _ (by simp; omega)).trans (by simp [go_sem])
    have hbw : Bl w w1 := (((Bl.refl w).alloc_ _).alloc_ _).trans_ hb1
    have hsw : w.heap.size < w1.heap.size := by have := hb1.size; simp at this; omega
    clear hx hb1
    go_wp2_with fail
    refine (distances_any k s A n c L HN.out hc HO.out hs0 hs1 _ (K1.out.bl hbw)).mono ?_
    rintro e w2 ⟨E, rfl, hE, hEd, hb2⟩
    have EL := Lib.hid hE
    have ED := Lib.hid hEd
    have s2 := hb2.size
    have r0 := ((bcell hb2).1 _ _ hsw).trans q0
    clear hE hEd q0 q1
    have HB2 := Lib.hid (hbw.trans_ hb2)
    clear hb2 hbw
    have NS := Lib.hid (NumsAt.stored EL.out (by simp) (there_new w2 83))
    have HR := Lib.hid (show Reads ((w2.alloc (.cells #[.int .i64 0, .int .i64 0, .int .i64 0, .int .i64 0, .int .i64 0, .int .i64 0, .int .i64 0, .int .i64 0, .int .i64 0, .int .i64 0, .int .i64 0, .int .i64 0, .int .i64 0, .int .i64 0, .int .i64 0, .int .i64 0, .int .i64 0, .int .i64 0, .int .i64 0, .int .i64 0, .int .i64 0, .int .i64 0, .int .i64 0, .int .i64 0] 83)).setCells w2.heap.size 0 (csI E)) (w2.heap.size + 1) 1 (some ⟨w2.heap.size, 0, none⟩) k (csI (distFromL k L s)) from by
      have hk : distFromL k L s = E.take k := by
        unfold distFromL
        rw [if_pos HH.out, ← ED.out]
        simp
      refine reads_of_cells (fun _ => ⟨w2.heap.size, 0, rfl, by omega, fun j hj => ?_⟩) (by rw [csI_len, hk, List.length_take, EL.out]; omega) (by decide)
      rw [csI_len] at hj
      rw [Nat.zero_add, csI_at]
      have hj' : j < E.length := by rw [hk, List.length_take] at hj; omega
      have := NS.out.cell j hj'
      simp only [hk, List.getElem_take]
      exact this)
    have hk0 : (0 : Int) ≤ (k : Int) := by omega
    have hlen : k = (distFromL k L s).length := by
      unfold distFromL
      rw [if_pos HH.out, distL_len HO.out hs0 hs1]
      simp
    have HLEN := Lib.hid hlen
    have hbS := Bl.setCells_ w2.heap.size (Nat.le_refl _) (csI E) 0 _ ((Bl.refl w2).alloc_ (.cells #[.int .i64 0, .int .i64 0, .int .i64 0, .int .i64 0, .int .i64 0, .int .i64 0, .int .i64 0, .int .i64 0, .int .i64 0, .int .i64 0, .int .i64 0, .int .i64 0, .int .i64 0, .int .i64 0, .int .i64 0, .int .i64 0, .int .i64 0, .int .i64 0, .int .i64 0, .int .i64 0, .int .i64 0, .int .i64 0, .int .i64 0, .int .i64 0] 83))
    have HBS := Lib.hid hbS
    have r1 := ((bcell hbS).1 w.heap.size 0 (by omega)).trans r0
    have hz := setCells_size w2.heap.size (csI E) 0 (w2.alloc (.cells #[.int .i64 0, .int .i64 0, .int .i64 0, .int .i64 0, .int .i64 0, .int .i64 0, .int .i64 0, .int .i64 0, .int .i64 0, .int .i64 0, .int .i64 0, .int .i64 0, .int .i64 0, .int .i64 0, .int .i64 0, .int .i64 0, .int .i64 0, .int .i64 0, .int .i64 0, .int .i64 0, .int .i64 0, .int .i64 0, .int .i64 0, .int .i64 0] 83))
    have HZ := Lib.hid hz
    clear hbS r0 hlen hz
    go_wp2_with (first | (refine wpList_store_mid rfl 83 (.tmp 5) (.tmp 13) rfl w2.heap.size 0 (csI E).toArray rfl rfl ?c1 ?c2 (csI_one _) ?_) | (at_builtin; refine wpList_append_any _ rfl _ _ _ rfl w.heap.size 2 i0 _ 1 8 Try.underlying38 I0.out I1.out I2.out I3.out rfl (by decide) (.slice none 0 0) 0 [] rfl (World.ownsRow_nil _ _ _ _) (w2.heap.size + 1) (some ⟨w2.heap.size, 0, none⟩) k 24 (csI (distFromL k L s)) rfl HR.out ?c6 ?c3 ?c4 ?c5 ?_))
    case c1 => simpa [csI_len, EL.out] using there_new w2 _
    case c2 => simpa [csI_len, EL.out] using size24
    case c3 => unfold maxLen; omega
    case c4 => omega
    case c5 => exact (HB2.out.trans_ HBS.out).size
    case c6 => exact csI_one' _
    intro v w3 hown hgr _
    try simp only [Nat.zero_add, List.nil_append] at hown
    have O := Lib.hid (show OwnN w3 w.heap.size v (distFromL k L s) from by unfold OwnN Owns; rw [← HLEN.out]; exact hown)
    have B3 : Bl w w3 := (HB2.out.trans_ HBS.out).grown_ hgr (fun g hg => by cases hg)
    clear hown hgr
    go_wp2
    go_ret
    exact ⟨v, rfl, O.out, B3⟩

end Go.Proofs.Ytdbjcojlcddhdaa

set_option linter.unusedSimpArgs false
set_option linter.unusedVariables false
namespace Go.Proofs.Ytdbjcojlcddhdaa
open Go.RowKit

theorem nodeB_ok {N v : Int} {L : List Arc3} (ho : okB N L = true) : nodeB N v = decide (0 ≤ v ∧ v < N) := by
  obtain ⟨h1, h2, -⟩ := okB_elim ho
  unfold nodeB inB
  have : wrap64 (N - 1) = N - 1 := by unfold wrap64; omega
  rw [this, Bool.eq_iff_iff]
  simp only [decide_eq_true_eq]
  omega
theorem distFromL_len (N : Int) (L : List Arc3) (s : Int) : (distFromL N L s).length ≤ 1048576 := by
  unfold distFromL
  split
  · obtain ⟨ho, h0, h1⟩ := has1_of ‹_›
    have := (okB_elim ho).2.1
    rw [distL_len ho h0 h1]
    omega
  · simp

set_option maxHeartbeats 1000000 in
theorem specDistFrom_any (N s : Int) (A : Option Addr) (n c : Nat) (L : List Arc3) (hn : n = L.length) (hc : n ≤ c) (w : World) (hm : n ≤ 1048576) (H1 : ArcsAt w w.heap.size A L) :
    Calls Try.prog 43 #[.agg #[.int .i64 N, .slice A n c], .int .i64 s] w (NumsMade (distFromL N L s) w) := by
  have K1 := Lib.hid H1
  have HN := Lib.hid hn
  clear H1 hn
  cases ho : okB N L with
  | false =>
    have HO := Lib.hid ho
    clear ho
    go_enter Try.func43, Try.ntmps43
    go_wp2_with fail
    refine (specOk_any N A n c L HN.out _ (by omega) (K1.out.bl (by repeat' (first | exact Bl.refl _ | with_reducible assumption | with_reducible refine Bl.drew_ ?_ | with_reducible refine Bl.drewN_ ?_ _ | with_reducible refine Bl.alloc_ ?_ _ | with_reducible refine Bl.trans_ ?_ (by assumption) | with_reducible refine Bl.trans_ ?_ (And.left (by assumption)))))).mono ?_
    rintro e w1 ⟨rfl, hb1⟩
    rw [HO.out]
    go_wp2
    go_ret
    refine ⟨_, rfl, ?_, (by repeat' (first | exact Bl.refl _ | with_reducible assumption | with_reducible refine Bl.drew_ ?_ | with_reducible refine Bl.drewN_ ?_ _ | with_reducible refine Bl.alloc_ ?_ _ | with_reducible refine Bl.trans_ ?_ (by assumption) | with_reducible refine Bl.trans_ ?_ (And.left (by assumption))))⟩
    unfold distFromL has1
    rw [HO.out, Bool.false_and, if_neg (by simp)]
    exact World.ownsRow_made (base := w.heap.size) (e := 2) (size := 1) w1 #[] 0 (by have := hb1.size; simp at this; omega) (by unfold maxLen; omega) rfl
  | true =>
    have HO := Lib.hid ho
    have HNB := Lib.hid (nodeB_ok (v := s) ho)
    clear ho
    by_cases hh : 0 ≤ s ∧ s < N
    · have h1 : decide (0 ≤ s ∧ s < N) = true := by simpa using hh
      have H1 := Lib.hid h1
      obtain ⟨hs0, hs1⟩ := hh
      clear h1
      go_enter Try.func43, Try.ntmps43
      go_wp2_with fail
      refine (specOk_any N A n c L HN.out _ (by omega) (K1.out.bl (by repeat' (first | exact Bl.refl _ | with_reducible assumption | with_reducible refine Bl.drew_ ?_ | with_reducible refine Bl.drewN_ ?_ _ | with_reducible refine Bl.alloc_ ?_ _ | with_reducible refine Bl.trans_ ?_ (by assumption) | with_reducible refine Bl.trans_ ?_ (And.left (by assumption)))))).mono ?_
      rintro e w1 ⟨rfl, hb1⟩
      rw [HO.out]
      obtain ⟨q0, q1⟩ := box2 hb1
      go_wp2_with fail
      refine (l1Node_any N s _ _).mono ?_
      rintro e w2 ⟨rfl, hb2⟩
      rw [HNB.out, H1.out]
      have hb12 := hb1.trans_ hb2
      clear q0 q1
      obtain ⟨q0, q1⟩ := box2 hb12
      have hbw : Bl w w2 := (Bl.alloc_ (Bl.refl w) _).trans_ hb12
      clear hb12
      go_wp2_with fail
      refine (l3Dist_any N s A n c L HN.out HO.out hs0 hs1 _ hm (K1.out.bl hbw)).mono ?_
      rintro e w3 ⟨v, rfl, hv, hb3⟩
      have V := Lib.hid (hv.low (B := w.heap.size) hbw.size)
      clear hv
      go_wp2
      go_ret
      refine ⟨v, rfl, ?_, hbw.trans_ hb3⟩
      unfold distFromL has1
      rw [HO.out, H1.out]
      exact V.out
    · have h1 : decide (0 ≤ s ∧ s < N) = false := by simpa using hh
      have H1 := Lib.hid h1
      clear h1 hh
      go_enter Try.func43, Try.ntmps43
      go_wp2_with fail
      refine (specOk_any N A n c L HN.out _ (by omega) (K1.out.bl (by repeat' (first | exact Bl.refl _ | with_reducible assumption | with_reducible refine Bl.drew_ ?_ | with_reducible refine Bl.drewN_ ?_ _ | with_reducible refine Bl.alloc_ ?_ _ | with_reducible refine Bl.trans_ ?_ (by assumption) | with_reducible refine Bl.trans_ ?_ (And.left (by assumption)))))).mono ?_
      rintro e w1 ⟨rfl, hb1⟩
      rw [HO.out]
      obtain ⟨q0, q1⟩ := box2 hb1
      go_wp2_with fail
      refine (l1Node_any N s _ _).mono ?_
      rintro e w2 ⟨rfl, hb2⟩
      rw [HNB.out, H1.out]
      have hb12 := hb1.trans_ hb2
      have hbw : Bl w w2 := (Bl.alloc_ (Bl.refl w) _).trans_ hb12
      clear hb12
      go_wp2
      go_ret
      refine ⟨_, rfl, ?_, hbw.alloc_ _⟩
      unfold distFromL has1
      rw [H1.out, Bool.and_false, if_neg (by simp)]
      exact World.ownsRow_made (base := w.heap.size) (e := 2) (size := 1) w2 #[] 0 hbw.size (by unfold maxLen; omega) rfl

set_option maxHeartbeats 1000000 in
theorem specDistOf_any (N s t : Int) (A : Option Addr) (n c : Nat) (L : List Arc3) (hn : n = L.length) (hc : n ≤ c) (w : World) (hm : n ≤ 1048576) (H1 : ArcsAt w w.heap.size A L) :
    Calls Try.prog 87 #[.agg #[.int .i64 N, .slice A n c], .int .i64 s, .int .i64 t] w fun e w' => e = .returned (.int .i64 (distOfI N L s t)) ∧ Bl w w' := by
  have K1 := Lib.hid H1
  have HN := Lib.hid hn
  clear H1 hn
  cases ho : okB N L with
  | false =>
    have HO := Lib.hid ho
    clear ho
    go_enter Try.func87, Try.ntmps87
    go_wp2_with fail
    refine (specOk_any N A n c L HN.out _ (by omega) (K1.out.bl (by repeat' (first | exact Bl.refl _ | with_reducible assumption | with_reducible refine Bl.drew_ ?_ | with_reducible refine Bl.drewN_ ?_ _ | with_reducible refine Bl.alloc_ ?_ _ | with_reducible refine Bl.trans_ ?_ (by assumption) | with_reducible refine Bl.trans_ ?_ (And.left (by assumption)))))).mono ?_
    rintro e w1 ⟨rfl, hb1⟩
    rw [HO.out]
    go_wp2
    go_ret
    refine ⟨ret_int ?_, (by repeat' (first | exact Bl.refl _ | with_reducible assumption | with_reducible refine Bl.drew_ ?_ | with_reducible refine Bl.drewN_ ?_ _ | with_reducible refine Bl.alloc_ ?_ _ | with_reducible refine Bl.trans_ ?_ (by assumption) | with_reducible refine Bl.trans_ ?_ (And.left (by assumption))))⟩
    unfold distOfI has2
    rw [HO.out, Bool.false_and, if_neg (by simp)]
  | true =>
    have HO := Lib.hid ho
    have HNB := Lib.hid (nodeB_ok (v := s) ho)
    have HNT := Lib.hid (nodeB_ok (v := t) ho)
    clear ho
    by_cases hh : 0 ≤ s ∧ s < N
    · have h1 : decide (0 ≤ s ∧ s < N) = true := by simpa using hh
      have H1 := Lib.hid h1
      obtain ⟨hs0, hs1⟩ := hh
      clear h1
      by_cases hk : 0 ≤ t ∧ t < N
      · have h2 : decide (0 ≤ t ∧ t < N) = true := by simpa using hk
        have H2 := Lib.hid h2
        obtain ⟨ht0, ht1⟩ := hk
        clear h2
        obtain ⟨u, rfl⟩ : ∃ u : Nat, t = u := ⟨t.toNat, by omega⟩
        go_enter Try.func87, Try.ntmps87
        go_wp2_with fail
        refine (specOk_any N A n c L HN.out _ (by omega) (K1.out.bl (by repeat' (first | exact Bl.refl _ | with_reducible assumption | with_reducible refine Bl.drew_ ?_ | with_reducible refine Bl.drewN_ ?_ _ | with_reducible refine Bl.alloc_ ?_ _ | with_reducible refine Bl.trans_ ?_ (by assumption) | with_reducible refine Bl.trans_ ?_ (And.left (by assumption)))))).mono ?_
        rintro e w1 ⟨rfl, hb1⟩
        rw [HO.out]
        obtain ⟨q0, q1⟩ := box2 hb1
        go_wp2_with fail
        refine (l1Node_any N s _ _).mono ?_
        rintro e w2 ⟨rfl, hb2⟩
        rw [HNB.out, H1.out]
        have hb2 := hb1.trans_ hb2
        clear q0 q1
        obtain ⟨q0, q1⟩ := box2 hb2
        go_wp2_with fail
        refine (l1Node_any N u _ _).mono ?_
        rintro e w3 ⟨rfl, hb3⟩
        rw [HNT.out, H2.out]
        have hb3 := hb2.trans_ hb3
        clear q0 q1
        obtain ⟨q0, q1⟩ := box2 hb3
        have hbw : Bl w w3 := (Bl.alloc_ (Bl.refl w) _).trans_ hb3
        clear hb1 hb2 hb3
        go_wp2_with fail
        refine (l3Dist_any N s A n c L HN.out HO.out hs0 hs1 _ hm (K1.out.bl hbw)).mono ?_
        rintro e w4 ⟨v, rfl, hv, hb4⟩
        have hl : (distL N L s).length = N.toNat := distL_len HO.out hs0 hs1
        obtain ⟨A5, c5, rfl, hc5, hi5, -, -⟩ := OwnN.shape hv
        obtain ⟨g5, o5, rfl, hg5, hcell⟩ := hi5.cell (by omega)
        have p := hcell u (by omega)
        have e1 : (distL N L s)[u]'(by omega) = distOfI N L s u := by
          unfold distOfI has2
          rw [HO.out, Bool.true_and, if_pos (by simp; omega)]
          unfold dAt
          simp [hl]
          rw [List.getElem?_eq_getElem (by omega)]
          rfl
        rw [e1] at p
        have i1 : (0 : Int) ≤ (u : Int) := by omega
        have i2 : (u : Int) < ((distL N L s).length : Int) := by omega
        clear hcell hv hi5 e1 hl q0 q1
        generalize (distL N L s).length = dl at *
        go_wp2
        go_ret
        exact ⟨ret_int rfl, hbw.trans_ hb4⟩
      · have h2 : decide (0 ≤ t ∧ t < N) = false := by simpa using hk
        have H2 := Lib.hid h2
        clear h2
        go_enter Try.func87, Try.ntmps87
        go_wp2_with fail
        refine (specOk_any N A n c L HN.out _ (by omega) (K1.out.bl (by repeat' (first | exact Bl.refl _ | with_reducible assumption | with_reducible refine Bl.drew_ ?_ | with_reducible refine Bl.drewN_ ?_ _ | with_reducible refine Bl.alloc_ ?_ _ | with_reducible refine Bl.trans_ ?_ (by assumption) | with_reducible refine Bl.trans_ ?_ (And.left (by assumption)))))).mono ?_
        rintro e w1 ⟨rfl, hb1⟩
        rw [HO.out]
        obtain ⟨q0, q1⟩ := box2 hb1
        go_wp2_with fail
        refine (l1Node_any N s _ _).mono ?_
        rintro e w2 ⟨rfl, hb2⟩
        rw [HNB.out, H1.out]
        have hb2 := hb1.trans_ hb2
        clear q0 q1
        obtain ⟨q0, q1⟩ := box2 hb2
        go_wp2_with fail
        refine (l1Node_any N t _ _).mono ?_
        rintro e w3 ⟨rfl, hb3⟩
        rw [HNT.out, H2.out]
        have hb3 := hb2.trans_ hb3
        have hbw : Bl w w3 := (Bl.alloc_ (Bl.refl w) _).trans_ hb3
        clear hb1 hb2 hb3 q0 q1
        go_wp2
        go_ret
        refine ⟨ret_int ?_, hbw⟩
        unfold distOfI has2
        rw [if_neg]
        intro h
        simp at h
        exact hk h.2.2
    · have h1 : decide (0 ≤ s ∧ s < N) = false := by simpa using hh
      have H1 := Lib.hid h1
      clear h1
      go_enter Try.func87, Try.ntmps87
      go_wp2_with fail
      refine (specOk_any N A n c L HN.out _ (by omega) (K1.out.bl (by repeat' (first | exact Bl.refl _ | with_reducible assumption | with_reducible refine Bl.drew_ ?_ | with_reducible refine Bl.drewN_ ?_ _ | with_reducible refine Bl.alloc_ ?_ _ | with_reducible refine Bl.trans_ ?_ (by assumption) | with_reducible refine Bl.trans_ ?_ (And.left (by assumption)))))).mono ?_
      rintro e w1 ⟨rfl, hb1⟩
      rw [HO.out]
      obtain ⟨q0, q1⟩ := box2 hb1
      go_wp2_with fail
      refine (l1Node_any N s _ _).mono ?_
      rintro e w2 ⟨rfl, hb2⟩
      rw [HNB.out, H1.out]
      have hb2 := hb1.trans_ hb2
      have hbw : Bl w w2 := (Bl.alloc_ (Bl.refl w) _).trans_ hb2
      clear hb1 hb2 q0 q1
      go_wp2
      go_ret
      refine ⟨ret_int ?_, hbw⟩
      unfold distOfI has2
      rw [if_neg]
      intro h
      simp at h
      exact hh h.2.1

end Go.Proofs.Ytdbjcojlcddhdaa

set_option linter.unusedSimpArgs false
set_option linter.unusedVariables false
namespace Go.Proofs.Ytdbjcojlcddhdaa
open Go.RowKit

set_option maxHeartbeats 400000 in
theorem sameInts_yes (A1 A2 : Option Addr) (c1 c2 : Nat) (V : List Int) (n : Nat) (hn : n = V.length) (w : World) (hm : n ≤ 9223372036854775807) (H1 : IntsAt w w.heap.size A1 V) (H2 : IntsAt w w.heap.size A2 V) :
    Calls Try.prog 35 #[.slice A1 n c1, .slice A2 n c2] w fun e w' => e = .returned (.bool true) ∧ Bl w w' := by
  have K1 := Lib.hid H1
  have K2 := Lib.hid H2
  have HN := Lib.hid hn
  have hnn : ((n : Int) != (n : Int)) = false := by simp
  clear H1 H2 hn
  go_enter Try.func35, Try.ntmps35
  go_wp2
  go_loopw [5] (fun i wr => ∃ k : Nat, k ≤ n ∧ i = .int .i64 k ∧ Bl w wr) (fun i _ => n - (intOf i).toNat)
  case atStart => exact ⟨0, by omega, rfl, Bl.refl w⟩
  case round =>
    obtain ⟨k, hk, rfl, hbl⟩ := hrel
    by_cases hlt : k < n
    · have hkl : k < V.length := by have := HN.out; omega
      obtain ⟨g1, o1, rfl, hg1, hc1⟩ := K1.out.cell (by omega)
      obtain ⟨g2, o2, rfl, hg2, hc2⟩ := K2.out.cell (by omega)
      have p1 := hc1 k hkl
      have p2 := hc2 k hkl
      clear hc1 hc2
      rw [← (bcell hbl).1 _ _ hg1] at p1
      rw [← (bcell hbl).1 _ _ hg2] at p2
      generalize V[k] = x at p1 p2
      have hxx : (x != x) = false := by simp
      have i1 : (0 : Int) ≤ (k : Int) := by omega
      have i2 : (k : Int) < (n : Int) := by omega
      go_wp2
      go_quiet (fail)
      go_wp2
      go_roundw
      case rel => exact ⟨k + 1, by omega, by go_num, (by repeat' (first | exact Bl.refl _ | with_reducible assumption | with_reducible refine Bl.drew_ ?_ | with_reducible refine Bl.drewN_ ?_ _ | with_reducible refine Bl.alloc_ ?_ _ | with_reducible refine Bl.trans_ ?_ (by assumption) | with_reducible refine Bl.trans_ ?_ (And.left (by assumption))))⟩
      case measure => simp [intOf]; omega
    · go_wp2
      go_ret
      exact ⟨rfl, hbl⟩

set_option maxHeartbeats 400000 in
theorem sameArcs_yes (A1 A2 : Option Addr) (c1 c2 : Nat) (L : List Arc3) (n : Nat) (hn : n = L.length) (w : World) (hm : n ≤ 9223372036854775807) (H1 : ArcsAt w w.heap.size A1 L) (H2 : ArcsAt w w.heap.size A2 L) :
    Calls Try.prog 63 #[.slice A1 n c1, .slice A2 n c2] w fun e w' => e = .returned (.bool true) ∧ Bl w w' := by
  have K1 := Lib.hid H1
  have K2 := Lib.hid H2
  have HN := Lib.hid hn
  have hnn : ((n : Int) != (n : Int)) = false := by simp
  clear H1 H2 hn
  go_enter Try.func63, Try.ntmps63
  go_wp2
  go_loopw [5] (fun i wr => ∃ k : Nat, k ≤ n ∧ i = .int .i64 k ∧ Bl w wr) (fun i _ => n - (intOf i).toNat)
  case atStart => exact ⟨0, by omega, rfl, Bl.refl w⟩
  case round =>
    obtain ⟨k, hk, rfl, hbl⟩ := hrel
    by_cases hlt : k < n
    · have hkl : k < L.length := by have := HN.out; omega
      obtain ⟨g1, o1, rfl, hg1, hc1⟩ := K1.out (by omega)
      obtain ⟨g2, o2, rfl, hg2, hc2⟩ := K2.out (by omega)
      obtain ⟨p1, p2, p3⟩ := hc1 k hkl
      obtain ⟨q1, q2, q3⟩ := hc2 k hkl
      clear hc1 hc2
      rw [← (bcell hbl).1 _ _ hg1] at p1 p2 p3
      rw [← (bcell hbl).1 _ _ hg2] at q1 q2 q3
      generalize L[k].1 = x at p1 q1
      generalize L[k].2.1 = y at p2 q2
      generalize L[k].2.2 = z at p3 q3
      have e1 : (x == x) = true := by simp
      have e2 : (y == y) = true := by simp
      have e3 : (z == z) = true := by simp
      have i1 : (0 : Int) ≤ (k : Int) := by omega
      have i2 : (k : Int) < (n : Int) := by omega
      go_wp2
      go_quiet (fail)
      go_wp2
      go_roundw
      case rel => exact ⟨k + 1, by omega, by go_num, (by repeat' (first | exact Bl.refl _ | with_reducible assumption | with_reducible refine Bl.drew_ ?_ | with_reducible refine Bl.drewN_ ?_ _ | with_reducible refine Bl.alloc_ ?_ _ | with_reducible refine Bl.trans_ ?_ (by assumption) | with_reducible refine Bl.trans_ ?_ (And.left (by assumption))))⟩
      case measure => simp [intOf]; omega
    · go_wp2
      go_ret
      exact ⟨rfl, hbl⟩

set_option maxHeartbeats 400000 in
theorem sameGraph_yes (N : Int) (A1 A2 : Option Addr) (c1 c2 : Nat) (L : List Arc3) (n : Nat) (hn : n = L.length) (w : World) (hm : n ≤ 9223372036854775807) (H1 : ArcsAt w w.heap.size A1 L) (H2 : ArcsAt w w.heap.size A2 L) :
    Calls Try.prog 20 #[.agg #[.int .i64 N, .slice A1 n c1], .agg #[.int .i64 N, .slice A2 n c2]] w fun e w' => e = .returned (.bool true) ∧ Bl w w' := by
  have K1 := Lib.hid H1
  have K2 := Lib.hid H2
  have HN := Lib.hid hn
  have hnn : (N == N) = true := by simp
  clear H1 H2 hn
  go_enter Try.func20, Try.ntmps20
  go_wp2_with fail
  refine (sameArcs_yes A1 A2 c1 c2 L n HN.out _ hm (K1.out.bl (by repeat' (first | exact Bl.refl _ | with_reducible assumption | with_reducible refine Bl.drew_ ?_ | with_reducible refine Bl.drewN_ ?_ _ | with_reducible refine Bl.alloc_ ?_ _ | with_reducible refine Bl.trans_ ?_ (by assumption) | with_reducible refine Bl.trans_ ?_ (And.left (by assumption))))) (K2.out.bl (by repeat' (first | exact Bl.refl _ | with_reducible assumption | with_reducible refine Bl.drew_ ?_ | with_reducible refine Bl.drewN_ ?_ _ | with_reducible refine Bl.alloc_ ?_ _ | with_reducible refine Bl.trans_ ?_ (by assumption) | with_reducible refine Bl.trans_ ?_ (And.left (by assumption)))))).mono ?_
  rintro e w1 ⟨rfl, hb1⟩
  go_wp2
  go_ret
  exact ⟨rfl, (Bl.alloc_ (Bl.alloc_ (Bl.refl w) _) _).trans_ hb1⟩

set_option maxHeartbeats 400000 in
theorem nodeLaw_any (N v : Int) (A : Option Addr) (n c : Nat) (L : List Arc3) (hn : n = L.length) (w : World) (hm : n ≤ 9223372036854775807) (H1 : ArcsAt w w.heap.size A L) :
    Calls Try.prog 37 #[.agg #[.int .i64 N, .slice A n c], .int .i64 v] w fun e w' => e = .returned (.bool (has1 N L v)) ∧ Bl w w' := by
  have K1 := Lib.hid H1
  have HN := Lib.hid hn
  clear H1 hn
  cases ho : okB N L with
  | false =>
    have HO := Lib.hid ho
    clear ho
    go_enter Try.func37, Try.ntmps37
    go_wp2_with fail
    refine (specOk_any N A n c L HN.out _ hm (K1.out.bl (by repeat' (first | exact Bl.refl _ | with_reducible assumption | with_reducible refine Bl.drew_ ?_ | with_reducible refine Bl.drewN_ ?_ _ | with_reducible refine Bl.alloc_ ?_ _ | with_reducible refine Bl.trans_ ?_ (by assumption) | with_reducible refine Bl.trans_ ?_ (And.left (by assumption)))))).mono ?_
    rintro e w1 ⟨rfl, hb1⟩
    rw [HO.out]
    go_wp2
    go_ret
    exact ⟨ret_bool (by unfold has1; rw [HO.out]; rfl), (Bl.alloc_ (Bl.refl w) _).trans_ hb1⟩
  | true =>
    have HO := Lib.hid ho
    clear ho
    by_cases h0 : 0 ≤ v
    · have b0 : decide (0 ≤ v) = true := by simpa using h0
      by_cases h1 : v < N
      · have b1 : decide (v < N) = true := by simpa using h1
        go_enter Try.func37, Try.ntmps37
        go_wp2_with fail
        refine (specOk_any N A n c L HN.out _ hm (K1.out.bl (by repeat' (first | exact Bl.refl _ | with_reducible assumption | with_reducible refine Bl.drew_ ?_ | with_reducible refine Bl.drewN_ ?_ _ | with_reducible refine Bl.alloc_ ?_ _ | with_reducible refine Bl.trans_ ?_ (by assumption) | with_reducible refine Bl.trans_ ?_ (And.left (by assumption)))))).mono ?_
        rintro e w1 ⟨rfl, hb1⟩
        rw [HO.out]
        obtain ⟨q0, q1⟩ := box2 hb1
        go_wp2
        go_ret
        exact ⟨ret_bool (by unfold has1; rw [HO.out, Bool.true_and]; symm; simp; omega), (Bl.alloc_ (Bl.refl w) _).trans_ hb1⟩
      · have b1 : decide (v < N) = false := by simpa using h1
        go_enter Try.func37, Try.ntmps37
        go_wp2_with fail
        refine (specOk_any N A n c L HN.out _ hm (K1.out.bl (by repeat' (first | exact Bl.refl _ | with_reducible assumption | with_reducible refine Bl.drew_ ?_ | with_reducible refine Bl.drewN_ ?_ _ | with_reducible refine Bl.alloc_ ?_ _ | with_reducible refine Bl.trans_ ?_ (by assumption) | with_reducible refine Bl.trans_ ?_ (And.left (by assumption)))))).mono ?_
        rintro e w1 ⟨rfl, hb1⟩
        rw [HO.out]
        obtain ⟨q0, q1⟩ := box2 hb1
        go_wp2
        go_ret
        exact ⟨ret_bool (by unfold has1; rw [HO.out, Bool.true_and]; symm; simp; omega), (Bl.alloc_ (Bl.refl w) _).trans_ hb1⟩
    · have b0 : decide (0 ≤ v) = false := by simpa using h0
      go_enter Try.func37, Try.ntmps37
      go_wp2_with fail
      refine (specOk_any N A n c L HN.out _ hm (K1.out.bl (by repeat' (first | exact Bl.refl _ | with_reducible assumption | with_reducible refine Bl.drew_ ?_ | with_reducible refine Bl.drewN_ ?_ _ | with_reducible refine Bl.alloc_ ?_ _ | with_reducible refine Bl.trans_ ?_ (by assumption) | with_reducible refine Bl.trans_ ?_ (And.left (by assumption)))))).mono ?_
      rintro e w1 ⟨rfl, hb1⟩
      rw [HO.out]
      obtain ⟨q0, q1⟩ := box2 hb1
      go_wp2
      go_ret
      exact ⟨ret_bool (by unfold has1; rw [HO.out, Bool.true_and]; symm; simp; omega), (Bl.alloc_ (Bl.refl w) _).trans_ hb1⟩

end Go.Proofs.Ytdbjcojlcddhdaa

set_option linter.unusedSimpArgs false
set_option linter.unusedVariables false
namespace Go.Proofs.Ytdbjcojlcddhdaa
open Go.RowKit

theorem IsDist.tri {N : Int} {L : List Arc3} {s t : Int} {D E : List Int} (ho : okB N L = true) (hD : IsDist N L s D) (hE : IsDist N (revL L) t E) :
    ∀ (n : Nat) (v : Int), 0 ≤ v → v < N → (dAt E v).toNat = n → 0 ≤ dAt E v → 0 ≤ dAt D v → 0 ≤ dAt D t ∧ dAt D t ≤ dAt D v + dAt E v := by
  have hp := (okB_elim ho).2.2.2.2
  have hin := arcsIn_of_ok ho
  intro n
  induction n using Nat.strongRecOn with
  | ind n ih =>
    intro v h0 h1 hn hb ha
    rcases hE.back v h0 h1 hb with rfl | ⟨r, hr, e1, e2, e3⟩
    · have := hE.start
      omega
    · have hm := (revL_mem hp).1 hr
      obtain ⟨a0, a1, a2, a3, a4, a5⟩ := hin _ hm
      simp only [turnA] at a0 a1 a2 a3 a4 a5
      have := hD.arc _ hm (by simp only [turnA]; rw [e1]; exact ha)
      simp only [turnA] at this
      rw [e1] at this
      obtain ⟨x, y⟩ := ih (dAt E r.1).toNat (by omega) r.1 a2 a3 rfl e2 this.1
      omega
/-- In the graph that is turned it is as far the other way round. -/
theorem IsDist.turned {N : Int} {L : List Arc3} {s t : Int} {D E : List Int} (ho : okB N L = true) (hs : 0 ≤ s ∧ s < N) (ht : 0 ≤ t ∧ t < N) (hD : IsDist N L s D) (hE : IsDist N (revL L) t E) : dAt E s = dAt D t := by
  have h1 := fun h => hD.tri ho hE _ s hs.1 hs.2 rfl h (by rw [hD.start]; omega)
  have hD' : IsDist N (revL (revL L)) s D := by rw [revL_revL ho]; exact hD
  have h2 := fun h => hE.tri (revL_ok ho) hD' _ t ht.1 ht.2 rfl h (by rw [hE.start]; omega)
  have e1 := hD.start
  have e2 := hE.start
  have l1 := hD.low t
  have l2 := hE.low s
  by_cases p : 0 ≤ dAt E s
  · obtain ⟨a, b⟩ := h1 p
    obtain ⟨c, d⟩ := h2 a
    omega
  · by_cases q : 0 ≤ dAt D t
    · obtain ⟨c, d⟩ := h2 q
      omega
    · omega

/-- The nodes of N, rising. -/
def nodesL (N : Int) : List Int := (List.range N.toNat).map Int.ofNat
/-- Is it by way of v at most so far? -/
def byB (D E : List Int) (m v : Int) : Bool := decide (0 ≤ dAt D v ∧ 0 ≤ dAt E v ∧ dAt D v + dAt E v ≤ m)
/-- The nodes by way of which it is at most so far. -/
def withinD (N : Int) (D E : List Int) (m : Int) : List Int := (nodesL N).filter (byB D E m)
def withinL (N : Int) (L : List Arc3) (s t m : Int) : List Int := withinD N (distL N L s) (distL N (revL L) t) m
theorem withinD_len (N : Int) (D E : List Int) (m : Int) : (withinD N D E m).length ≤ N.toNat := by
  unfold withinD
  exact Nat.le_trans (List.length_filter_le _ _) (by simp [nodesL])
/-- The first k of them. -/
def withinK (D E : List Int) (m : Int) (k : Nat) : List Int := ((List.range k).map Int.ofNat).filter (byB D E m)
theorem withinK_zero (D E : List Int) (m : Int) : withinK D E m 0 = [] := rfl
theorem withinK_yes {D E : List Int} {m : Int} {k : Nat} (h : byB D E m (k : Int) = true) : withinK D E m (k + 1) = withinK D E m k ++ [(k : Int)] := by
  unfold withinK
  rw [List.range_succ, List.map_append, List.filter_append]
  congr 1
  show List.filter _ [(k : Int)] = _
  rw [List.filter_cons, if_pos h]
  rfl
theorem withinK_no {D E : List Int} {m : Int} {k : Nat} (h : byB D E m (k : Int) = false) : withinK D E m (k + 1) = withinK D E m k := by
  unfold withinK
  rw [List.range_succ, List.map_append, List.filter_append]
  have : List.filter (byB D E m) (List.map Int.ofNat [k]) = [] := by
    show List.filter _ [(k : Int)] = _
    rw [List.filter_cons, if_neg (by rw [h]; simp)]
    rfl
  rw [this, List.append_nil]
theorem withinK_len (D E : List Int) (m : Int) (k : Nat) : (withinK D E m k).length ≤ k := by
  unfold withinK
  exact Nat.le_trans (List.length_filter_le _ _) (by simp)
theorem withinK_all (N : Int) (D E : List Int) (m : Int) : withinK D E m N.toNat = withinD N D E m := rfl
theorem mem_nodesL {N v : Int} : v ∈ nodesL N ↔ 0 ≤ v ∧ v < N := by
  unfold nodesL
  rw [List.mem_map]
  constructor
  · rintro ⟨k, hk, rfl⟩
    have := List.mem_range.1 hk
    simp
    omega
  · rintro ⟨h0, h1⟩
    exact ⟨v.toNat, List.mem_range.2 (by omega), by simp; omega⟩
theorem mem_withinD {N : Int} {D E : List Int} {m v : Int} : v ∈ withinD N D E m ↔ (0 ≤ v ∧ v < N) ∧ 0 ≤ dAt D v ∧ 0 ≤ dAt E v ∧ dAt D v + dAt E v ≤ m := by
  unfold withinD
  rw [List.mem_filter, mem_nodesL]
  simp [byB]

/-- The nodes of the shortest paths. -/
def onL (N : Int) (L : List Arc3) (s t : Int) : List Int := if has2 N L s t = true then withinL N L s t (dAt (distL N L s) t) else []
def betL (N : Int) (L : List Arc3) (s t m : Int) : List Int := if (has2 N L s t && decide (0 ≤ m ∧ m ≤ 24000)) = true then withinL N L s t m else []
theorem byB_on {N : Int} {L : List Arc3} {s t v : Int} {D E : List Int} (ho : okB N L = true) (hD : IsDist N L s D) (hE : IsDist N (revL L) t E) (h0 : 0 ≤ v) (h1 : v < N) : byB D E (dAt D t) v = decide (0 ≤ dAt D v ∧ 0 ≤ dAt E v ∧ dAt D v + dAt E v = dAt D t) := by
  unfold byB
  rw [Bool.eq_iff_iff]
  simp only [decide_eq_true_eq]
  constructor
  · rintro ⟨a, b, c⟩
    have := hD.tri ho hE _ v h0 h1 rfl b a
    omega
  · rintro ⟨a, b, c⟩
    omega
theorem byB_none {D E : List Int} {m v : Int} (h : m < 0) : byB D E m v = false := by
  unfold byB
  rw [decide_eq_false_iff_not]
  omega
theorem withinD_none {N : Int} {D E : List Int} {m : Int} (h : m < 0) : withinD N D E m = [] := by
  unfold withinD
  rw [List.filter_eq_nil_iff]
  intro v _
  rw [byB_none h]
  simp
theorem stepsL_len (L : List Arc3) (D : List Int) (t : Int) : ∀ (n : Nat) (v : Int), (dAt D v).toNat = n → (stepsL L D t v).length ≤ n := by
  intro n
  induction n using Nat.strongRecOn with
  | ind n ih =>
    intro v hn
    rw [stepsL]
    split
    · simp
    · split
      · simp
      · split
        · rename_i a _ h
          have := ih _ (by omega) a.2.1 rfl
          simp only [List.length_cons]
          omega
        · simp
theorem distL_of_turned {N s t : Int} {L : List Arc3} (ho : okB N L = true) (hs : 0 ≤ s ∧ s < N) (ht : 0 ≤ t ∧ t < N) : dAt (distL N (revL L) t) s = dAt (distL N L s) t :=
  IsDist.turned ho hs ht (distL_is (arcsIn_of_ok ho) (okB_elim ho).2.1 hs.1 hs.2) (distL_is (arcsIn_of_ok (revL_ok ho)) (okB_elim ho).2.1 ht.1 ht.2)

/-- The first of the shortest paths; none: there is none. -/
def pathL (N : Int) (L : List Arc3) (s t : Int) : List Int := if (has2 N L s t && decide (0 ≤ dAt (distL N (revL L) t) s)) = true then s :: stepsL L (distL N (revL L) t) t s else []

theorem onL_len (N : Int) (L : List Arc3) (s t : Int) : (onL N L s t).length ≤ 1048576 := by
  unfold onL
  split
  · rename_i h
    have := (okB_elim (has2_of h).1).2.1
    have := withinD_len N (distL N L s) (distL N (revL L) t) (dAt (distL N L s) t)
    unfold withinL
    omega
  · simp
theorem betL_len (N : Int) (L : List Arc3) (s t m : Int) : (betL N L s t m).length ≤ 1048576 := by
  unfold betL
  split
  · rename_i h
    rw [Bool.and_eq_true] at h
    have := (okB_elim (has2_of h.1).1).2.1
    have := withinD_len N (distL N L s) (distL N (revL L) t) m
    unfold withinL
    omega
  · simp
theorem pathL_len (N : Int) (L : List Arc3) (s t : Int) : (pathL N L s t).length ≤ 1048576 := by
  unfold pathL
  split
  · rename_i h
    rw [Bool.and_eq_true] at h
    obtain ⟨ho, h1, h2⟩ := has2_of h.1
    have := (distL_top (revL_ok ho) h2.1 h2.2 s).2
    have := stepsL_len L (distL N (revL L) t) t _ s rfl
    simp only [List.length_cons]
    omega
  · simp

/-- The weight of step k of a path; 0: it is none. -/
def stepW (L : List Arc3) (P : List Int) (k : Nat) : Int := wtL (P.getD k 0) (P.getD (k + 1) 0) L
/-- The first k steps together. -/
def sumW (L : List Arc3) (P : List Int) : Nat → Int
  | 0 => 0
  | k + 1 => sumW L P k + stepW L P k
theorem stepW_at {L : List Arc3} {P : List Int} {k : Nat} (h : k + 1 < P.length) : stepW L P k = wtL P[k] P[k + 1] L := by
  unfold stepW
  rw [List.getD_eq_getElem?_getD, List.getD_eq_getElem?_getD, List.getElem?_eq_getElem (by omega), List.getElem?_eq_getElem h]
  rfl
/-- Is it a path of a right graph? -/
def pathB (N : Int) (L : List Arc3) (P : List Int) : Bool := okB N L && decide (0 < P.length ∧ P.length ≤ 1000 ∧ (0 ≤ P.getD 0 0 ∧ P.getD 0 0 < N) ∧ ∀ j, j < P.length - 1 → stepW L P j ≠ 0)
def lenI (N : Int) (L : List Arc3) (P : List Int) : Int := if pathB N L P = true then sumW L P (P.length - 1) else 0

end Go.Proofs.Ytdbjcojlcddhdaa

set_option linter.unusedSimpArgs false
set_option linter.unusedVariables false
namespace Go.Proofs.Ytdbjcojlcddhdaa
open Go.RowKit

theorem wtL_mem {L : List Arc3} (hs : L.Pairwise AheadP) : ∀ {a : Arc3}, a ∈ L → wtL a.1 a.2.1 L = a.2.2 := by
  induction L with
  | nil => intro a ha; cases ha
  | cons b L ih =>
    intro a ha
    rw [List.pairwise_cons] at hs
    unfold wtL
    rcases List.mem_cons.1 ha with rfl | h
    · rw [if_pos (isEnds_iff.2 ⟨rfl, rfl⟩)]
    · rw [if_neg (fun he => ahead_ne (hs.1 a h) (isEnds_iff.1 he))]
      exact ih hs.2 h
theorem wtL_pos {u v : Int} : ∀ {L : List Arc3}, 0 < wtL u v L → (u, v, wtL u v L) ∈ L
  | [], h => by simp [wtL] at h
  | a :: l, h => by
    unfold wtL at h ⊢
    split
    · rename_i he
      obtain ⟨rfl, rfl⟩ := isEnds_iff.1 he
      exact List.mem_cons_self
    · rename_i he
      rw [if_neg he] at h
      exact List.mem_cons_of_mem _ (wtL_pos h)

/-- The least way over an arc from one of the first k nodes. -/
def leastSt (D : List Int) (L : List Arc3) (s v : Int) : Nat → Int
  | 0 => if v = s then 0 else -1
  | k + 1 => if 0 < wtL k v L ∧ 0 ≤ dAt D k ∧ (leastSt D L s v k < 0 ∨ dAt D k + wtL k v L < leastSt D L s v k) then dAt D k + wtL k v L else leastSt D L s v k
theorem leastSt_inv {N : Int} {L : List Arc3} {s v : Int} {D : List Int} (hD : IsDist N L s D) : ∀ k : Nat,
    -1 ≤ leastSt D L s v k ∧ (0 ≤ leastSt D L s v k → 0 ≤ dAt D v ∧ dAt D v ≤ leastSt D L s v k) ∧ (v = s → 0 ≤ leastSt D L s v k ∧ leastSt D L s v k ≤ 0) ∧
      ∀ u : Nat, u < k → 0 < wtL u v L → 0 ≤ dAt D u → 0 ≤ leastSt D L s v k ∧ leastSt D L s v k ≤ dAt D u + wtL u v L
  | 0 => by
    have hst := hD.start
    unfold leastSt
    split
    · rename_i e
      rw [e]
      exact ⟨by omega, fun _ => by omega, fun _ => by omega, fun u h => absurd h (by omega)⟩
    · rename_i e
      exact ⟨by omega, fun h => by omega, fun h => absurd h e, fun u h => absurd h (by omega)⟩
  | k + 1 => by
    obtain ⟨h1, h2, h3, h4⟩ := leastSt_inv (v := v) hD k
    have hst := hD.start
    unfold leastSt
    split
    · rename_i hc
      obtain ⟨c1, c2, c3⟩ := hc
      have ha := hD.arc _ (wtL_pos c1) (by simpa using c2)
      simp only at ha
      refine ⟨by omega, fun _ => ha, fun e => ?_, fun u hu p q => ?_⟩
      · have := h3 e
        rw [e] at ha
        omega
      · rcases Nat.lt_or_ge u k with h | h
        · have := h4 u h p q
          omega
        · obtain rfl : u = k := by omega
          omega
    · rename_i hc
      refine ⟨h1, h2, h3, fun u hu p q => ?_⟩
      rcases Nat.lt_or_ge u k with h | h
      · exact h4 u h p q
      · obtain rfl : u = k := by omega
        omega
theorem leastSt_all {N : Int} {L : List Arc3} {s v : Int} {D : List Int} (ho : okB N L = true) (hD : IsDist N L s D) (h0 : 0 ≤ v) (h1 : v < N) : leastSt D L s v N.toNat = dAt D v := by
  obtain ⟨a, b, c, d⟩ := leastSt_inv (v := v) hD N.toNat
  have hl := hD.low v
  by_cases hp : 0 ≤ dAt D v
  · rcases hD.back v h0 h1 hp with e | ⟨x, hx, e1, e2, e3⟩
    · subst e
      have h := c rfl
      have := b h.1
      have hst := hD.start
      omega
    · obtain ⟨a0, a1, a2, a3, a4, a5⟩ := arcsIn_of_ok ho x hx
      have hw := wtL_mem (okB_elim ho).2.2.2.2 hx
      rw [e1] at hw
      obtain ⟨u, hu⟩ : ∃ u : Nat, x.1 = u := ⟨x.1.toNat, by omega⟩
      rw [hu] at hw e2 e3
      have h := d u (by omega) (by omega) e2
      have := b h.1
      omega
  · have : ¬ 0 ≤ leastSt D L s v N.toNat := fun h => hp (b h).1
    omega

theorem triangle {N s t v : Int} {L : List Arc3} (h : has2 N L s t = true) (h0 : 0 ≤ v) (h1 : v < N) (ha : 0 ≤ distOfI N L s v) (hb : 0 ≤ distOfI N L v t) : 0 ≤ distOfI N L s t ∧ distOfI N L s t ≤ distOfI N L s v + distOfI N L v t := by
  obtain ⟨ho, hs, ht⟩ := has2_of h
  have e1 : distOfI N L s v = dAt (distL N L s) v := by
    unfold distOfI
    rw [if_pos (by unfold has2; rw [ho, Bool.true_and, decide_eq_true_eq]; omega)]
  have e2 : distOfI N L v t = dAt (distL N L v) t := by
    unfold distOfI
    rw [if_pos (by unfold has2; rw [ho, Bool.true_and, decide_eq_true_eq]; omega)]
  have e3 : distOfI N L s t = dAt (distL N L s) t := by unfold distOfI; rw [if_pos h]
  rw [e1] at ha ⊢
  rw [e2] at hb ⊢
  rw [e3]
  have e4 := distL_of_turned ho ⟨h0, h1⟩ ht
  rw [← e4] at hb ⊢
  have hD := distL_is (s := s) (arcsIn_of_ok ho) (okB_elim ho).2.1 hs.1 hs.2
  have hE := distL_is (s := t) (arcsIn_of_ok (revL_ok ho)) (okB_elim ho).2.1 ht.1 ht.2
  exact hD.tri ho hE _ v h0 h1 rfl hb ha
theorem distOfI_bounds {N s t : Int} {L : List Arc3} : -1 ≤ distOfI N L s t ∧ distOfI N L s t ≤ 23000 := by
  unfold distOfI
  split
  · rename_i h
    obtain ⟨ho, hs, ht⟩ := has2_of h
    exact distL_top ho hs.1 hs.2 t
  · omega

/-- The arcs of the first k nodes, one behind the other. -/
def catL (L : List Arc3) (k : Nat) : List Arc3 := L.filter fun a => decide (a.1 < (k : Int))
theorem catL_zero {L : List Arc3} (h : ∀ a ∈ L, 0 ≤ a.1) : catL L 0 = [] := by
  unfold catL
  rw [List.filter_eq_nil_iff]
  intro a ha
  have := h a ha
  simp
  omega
theorem catL_succ {L : List Arc3} (hs : L.Pairwise AheadP) (k : Nat) : catL L (k + 1) = catL L k ++ fromL k L := by
  induction L with
  | nil => rfl
  | cons a L ih =>
    rw [List.pairwise_cons] at hs
    have ih' := ih hs.2
    unfold catL fromL at ih' ⊢
    simp only [List.filter_cons]
    by_cases h1 : a.1 < (k : Int)
    · rw [if_pos (by simp; omega), if_pos (by simpa using h1), if_neg (by simp; omega), ih']
      rfl
    · by_cases h2 : a.1 = (k : Int)
      · have h3 : L.filter (fun a => decide (a.1 < (k : Int))) = [] := by
          rw [List.filter_eq_nil_iff]
          intro b hb hlt
          have := hs.1 b hb
          unfold AheadP at this
          simp only [aheadB, decide_eq_true_eq] at this hlt
          omega
        rw [h3, List.nil_append] at ih'
        rw [if_pos (by simp; omega), if_neg (by simpa using h1), if_pos (by simpa using h2), ih', h3]
        rfl
      · have h3 : L.filter (fun a => decide (a.1 < ((k + 1 : Nat) : Int))) = [] := by
          rw [List.filter_eq_nil_iff]
          intro b hb hlt
          have := hs.1 b hb
          unfold AheadP at this
          simp only [aheadB, decide_eq_true_eq] at this hlt
          omega
        rw [h3] at ih'
        rw [if_neg (by simp; omega), if_neg (by simpa using h1), if_neg (by simpa using h2), h3]
        exact ih'
theorem catL_all {N : Int} {L : List Arc3} (h : okB N L = true) : catL L N.toNat = L := by
  unfold catL
  rw [List.filter_eq_self]
  intro a ha
  have := arcsIn_of_ok h a ha
  simp
  omega
theorem catL_len (L : List Arc3) (k : Nat) : (catL L k).length ≤ L.length := List.length_filter_le _ _
theorem fromL_at {v : Int} {L : List Arc3} {k : Nat} (hs : L.Pairwise AheadP) (h : k < (fromL v L).length) : (fromL v L)[k].1 = v ∧ wtL v (fromL v L)[k].2.1 L = (fromL v L)[k].2.2 := by
  have hm : (fromL v L)[k] ∈ fromL v L := List.getElem_mem h
  generalize (fromL v L)[k] = a at hm
  unfold fromL at hm
  obtain ⟨h1, h2⟩ := List.mem_filter.1 hm
  have e : a.1 = v := by simpa using h2
  refine ⟨e, ?_⟩
  have := wtL_mem hs h1
  rwa [e] at this

/-- How many arcs come to a node. -/
def intoN (L : List Arc3) (v : Int) (k : Nat) : Nat := ((L.take k).filter fun a => a.2.1 == v).length
theorem intoN_all {L : List Arc3} (hs : L.Pairwise AheadP) (v : Int) : (fromL v (revL L)).length = intoN L v L.length := by
  unfold fromL intoN
  rw [List.take_length]
  have h := ((revL_sorted hs).2.filter fun a => a.1 == v).length_eq
  rw [h, List.filter_map, List.length_map]
  rfl

end Go.Proofs.Ytdbjcojlcddhdaa

set_option linter.unusedSimpArgs false
set_option linter.unusedVariables false
namespace Go.Proofs.Ytdbjcojlcddhdaa
open Go.RowKit

theorem restL_sorted {L : List Arc3} (u v : Int) (hs : L.Pairwise AheadP) : (restL u v L).Pairwise AheadP := hs.filter _
theorem restL_ends {L : List Arc3} {u v : Int} : ∀ b ∈ restL u v L, isEnds u v b = false := fun b hb => by
  have := (List.mem_filter.1 hb).2
  simpa using this
theorem restL_same {M : List Arc3} {u v : Int} (hE : ∀ b ∈ M, isEnds u v b = false) : restL u v M = M :=
  List.filter_eq_self.2 fun b hb => by simp [hE b hb]
theorem restL_put {M : List Arc3} {u v y : Int} (hs : M.Pairwise AheadP) (hE : ∀ b ∈ M, isEnds u v b = false) : restL u v (putL (u, v, y) M) = M := by
  obtain ⟨p1, p2⟩ := putL_sorted (u, v, y) M hs hE
  refine sorted_uniq (restL_sorted u v p1) hs ((p2.filter _).trans ?_)
  have e : ((u, v, y) :: M).filter (fun a => !(isEnds u v a)) = restL u v M := by
    rw [List.filter_cons_of_neg (by simp [isEnds])]
    rfl
  rw [e, restL_same hE]
theorem restL_weighed {L : List Arc3} {u v y : Int} (hs : L.Pairwise AheadP) : restL u v (weighedL u v y L) = restL u v L := by
  unfold weighedL
  split
  · exact restL_put (restL_sorted u v hs) restL_ends
  · exact restL_same restL_ends
/-- A weight that is given again is as if it were given once. -/
theorem weighed_twice {L : List Arc3} {u v x y : Int} (hs : L.Pairwise AheadP) : weighedL u v x (weighedL u v y L) = weighedL u v x L := by
  show (if 0 < x then putL (u, v, x) (restL u v (weighedL u v y L)) else restL u v (weighedL u v y L)) = _
  rw [restL_weighed hs]
  rfl
theorem weighedB_twice {N : Int} {L : List Arc3} {u v x y : Int} (h1 : weighedB N L u v x = true) (h2 : weighedB N L u v y = true) : weighedB N (weighedL u v y L) u v x = true := by
  unfold weighedB at *
  simp only [Bool.and_eq_true] at *
  obtain ⟨⟨⟨a1, a2⟩, a3⟩, a4⟩ := h1
  obtain ⟨⟨⟨b1, b2⟩, b3⟩, b4⟩ := h2
  exact ⟨⟨⟨b4, a2⟩, a3⟩, by rw [weighed_twice (okB_elim a1).2.2.2.2]; exact a4⟩
theorem ends_one {L : List Arc3} {u v : Int} (hs : L.Pairwise AheadP) {a : Arc3} (ha : a ∈ L) (he : isEnds u v a = true) : L.filter (isEnds u v) = [a] := by
  have hp := hs.filter (isEnds u v)
  have hm : a ∈ L.filter (isEnds u v) := List.mem_filter.2 ⟨ha, he⟩
  have hall : ∀ b ∈ L.filter (isEnds u v), isEnds u v b = true := fun b hb => (List.mem_filter.1 hb).2
  generalize L.filter (isEnds u v) = M at *
  match M, hm, hp, hall with
  | [], hm, _, _ => cases hm
  | [b], hm, _, _ => rw [List.mem_singleton] at hm; rw [hm]
  | b :: d :: r, hm, hp, hall =>
    have h1 := isEnds_iff.1 (hall b (by simp))
    have h2 := isEnds_iff.1 (hall d (by simp))
    have h3 := List.rel_of_pairwise_cons hp (show d ∈ d :: r by simp)
    unfold AheadP at h3
    rw [h1.1, h1.2, h2.1, h2.2, ahead_irrefl] at h3
    cases h3
theorem wtL_has {L : List Arc3} {u v : Int} : 0 < wtL u v L → ∃ a ∈ L, isEnds u v a = true ∧ wtL u v L = a.2.2 := by
  induction L with
  | nil => intro h; exact absurd h (by simp [wtL])
  | cons b L ih =>
    intro h
    unfold wtL at h ⊢
    split at h
    · rename_i e
      rw [if_pos e]
      exact ⟨b, by simp, e, rfl⟩
    · rename_i e
      rw [if_neg e]
      obtain ⟨a, h1, h2, h3⟩ := ih h
      exact ⟨a, by simp [h1], h2, h3⟩
theorem wtL_ends {L : List Arc3} {u v : Int} (h : ∀ a ∈ L, isEnds u v a = false) : wtL u v L = 0 :=
  wtL_none fun k hk => h _ (List.getElem_mem hk)
theorem weighed_back {L : List Arc3} {u v : Int} (hs : L.Pairwise AheadP) (hw : ∀ a ∈ L, 1 ≤ a.2.2) : weighedL u v (wtL u v L) L = L := by
  have hperm : (L.filter (isEnds u v) ++ restL u v L).Perm L := List.filter_append_perm _ _
  unfold weighedL
  split
  · rename_i h
    obtain ⟨a, hm, he, e⟩ := wtL_has h
    have h1 := ends_one hs hm he
    obtain ⟨e1, e2⟩ := isEnds_iff.1 he
    have ea : (u, v, wtL u v L) = a := by rw [e, ← e1, ← e2]
    rw [ea]
    obtain ⟨p1, p2⟩ := putL_sorted a (restL u v L) (restL_sorted u v hs) (by rw [e1, e2]; exact restL_ends)
    refine sorted_uniq p1 hs (p2.trans ?_)
    rw [h1] at hperm
    exact hperm
  · rename_i h
    refine restL_same fun b hb => ?_
    cases hc : isEnds u v b with
    | false => rfl
    | true =>
      obtain ⟨e1, e2⟩ := isEnds_iff.1 hc
      have h3 := wtL_mem hs hb
      rw [e1, e2] at h3
      have := hw b hb
      omega
/-- A weight that was given is the arc's; no other is another. -/
theorem wtL_weighed {L : List Arc3} {u v x s t : Int} (hs : L.Pairwise AheadP) (hx : 0 ≤ x) : wtL s t (weighedL u v x L) = if s = u ∧ t = v then x else wtL s t L := by
  have hr := restL_sorted u v hs
  have hin : ∀ a : Arc3, a ∈ restL u v L ↔ a ∈ L ∧ isEnds u v a = false := fun a => by
    unfold restL
    rw [List.mem_filter]
    simp
  have hne : ∀ a : Arc3, isEnds s t a = true → ¬ (s = u ∧ t = v) → isEnds u v a = false := fun a h h' => by
    cases hc : isEnds u v a with
    | false => rfl
    | true =>
      obtain ⟨a1, a2⟩ := isEnds_iff.1 h
      obtain ⟨b1, b2⟩ := isEnds_iff.1 hc
      exact absurd ⟨a1.symm.trans b1, a2.symm.trans b2⟩ h'
  -- two sorted lists with the same arcs of these ends weigh the same
  have key : ∀ (X Y : List Arc3), X.Pairwise AheadP → Y.Pairwise AheadP → (∀ a : Arc3, isEnds s t a = true → (a ∈ X ↔ a ∈ Y)) → wtL s t X = wtL s t Y := fun X Y hX hY h => by
    by_cases hc : ∃ a ∈ X, isEnds s t a = true
    · obtain ⟨a, ha, he⟩ := hc
      obtain ⟨e1, e2⟩ := isEnds_iff.1 he
      have h1 := wtL_mem hX ha
      have h2 := wtL_mem hY ((h a he).1 ha)
      rw [e1, e2] at h1 h2
      rw [h1, h2]
    · rw [wtL_ends (fun a ha => by cases hq : isEnds s t a with
        | false => rfl
        | true => exact absurd ⟨a, ha, hq⟩ hc), wtL_ends (fun a ha => by cases hq : isEnds s t a with
        | false => rfl
        | true => exact absurd ⟨a, (h a hq).2 ha, hq⟩ hc)]
  unfold weighedL
  split
  · rename_i h
    obtain ⟨p1, p2⟩ := putL_sorted (u, v, x) (restL u v L) hr restL_ends
    split
    · rename_i e
      obtain ⟨rfl, rfl⟩ := e
      exact wtL_mem p1 (a := (s, t, x)) (p2.mem_iff.2 (by simp))
    · rename_i e
      refine key _ _ p1 hs fun a ha => ?_
      rw [p2.mem_iff, List.mem_cons, hin]
      constructor
      · rintro (rfl | h1)
        · obtain ⟨e1, e2⟩ := isEnds_iff.1 ha
          exact absurd ⟨e1.symm, e2.symm⟩ e
        · exact h1.1
      · exact fun h1 => .inr ⟨h1, hne a ha e⟩
  · rename_i h
    split
    · rename_i e
      obtain ⟨rfl, rfl⟩ := e
      rw [wtL_ends restL_ends]
      omega
    · rename_i e
      exact key _ _ hr hs fun a ha => by rw [hin]; exact ⟨fun h1 => h1.1, fun h1 => ⟨h1, hne a ha e⟩⟩

end Go.Proofs.Ytdbjcojlcddhdaa

set_option linter.unusedSimpArgs false
set_option linter.unusedVariables false
namespace Go.Proofs.Ytdbjcojlcddhdaa
open Go.RowKit

theorem IsDist.lighter {N s : Int} {L M : List Arc3} {D E : List Int} (hM : ArcsIn N M) (hsub : ∀ a ∈ M, ∃ b ∈ L, b.1 = a.1 ∧ b.2.1 = a.2.1 ∧ b.2.2 ≤ a.2.2) (hD : IsDist N L s D) (hE : IsDist N M s E) :
    ∀ (n : Nat) (v : Int), 0 ≤ v → v < N → (dAt E v).toNat = n → 0 ≤ dAt E v → 0 ≤ dAt D v ∧ dAt D v ≤ dAt E v := by
  intro n
  induction n using Nat.strongRecOn with
  | ind n ih =>
    intro v h0 h1 hn hp
    rcases hE.back v h0 h1 hp with rfl | ⟨a, ha, rfl, hu, he⟩
    · rw [hE.start, hD.start]; omega
    · obtain ⟨a0, a1, a2, a3, a4, a5⟩ := hM a ha
      obtain ⟨x, y⟩ := ih (dAt E a.1).toNat (by omega) a.1 a0 a1 rfl hu
      obtain ⟨b, hb, e1, e2, e3⟩ := hsub a ha
      obtain ⟨z, t⟩ := hD.arc b hb (by rw [e1]; exact x)
      rw [e1] at t
      rw [e2] at z t
      omega
theorem weighed_mem {u v x : Int} {L : List Arc3} (hs : L.Pairwise AheadP) {b : Arc3} : b ∈ weighedL u v x L ↔ (0 < x ∧ b = (u, v, x)) ∨ (b ∈ L ∧ isEnds u v b = false) := by
  have hr : b ∈ restL u v L ↔ b ∈ L ∧ isEnds u v b = false := by
    unfold restL
    rw [List.mem_filter]
    simp
  unfold weighedL
  split
  · rename_i h
    obtain ⟨-, hp⟩ := putL_sorted (u, v, x) (restL u v L) (restL_sorted u v hs) restL_ends
    rw [hp.mem_iff, List.mem_cons, hr]
    constructor
    · rintro (h' | h')
      · exact .inl ⟨h, h'⟩
      · exact .inr h'
    · rintro (h' | h')
      · exact .inl h'.2
      · exact .inr h'
  · rename_i h
    rw [hr]
    constructor
    · exact fun h' => .inr h'
    · rintro (h' | h')
      · exact absurd h'.1 h
      · exact h'
/-- With an arc that is heavier, or gone, nothing is nearer. -/
theorem heavier_far {N s u v x : Int} {L : List Arc3} (hok : weighedB N L u v x = true) (hs : 0 ≤ s ∧ s < N) (hh : x = 0 ∨ (0 < wtL u v L ∧ wtL u v L ≤ x)) {t : Int} (ht : 0 ≤ t ∧ t < N) (h : 0 ≤ dAt (distL N (weighedL u v x L) s) t) :
    0 ≤ dAt (distL N L s) t ∧ dAt (distL N L s) t ≤ dAt (distL N (weighedL u v x L) s) t := by
  unfold weighedB at hok
  simp only [Bool.and_eq_true] at hok
  have ho := hok.1.1.1
  have ho2 := hok.2
  have hN := (okB_elim ho).2.1
  have hs2 := (okB_elim ho).2.2.2.2
  refine IsDist.lighter (arcsIn_of_ok ho2) (fun a ha => ?_) (distL_is (arcsIn_of_ok ho) hN hs.1 hs.2) (distL_is (arcsIn_of_ok ho2) hN hs.1 hs.2) _ t ht.1 ht.2 rfl h
  rcases (weighed_mem hs2).1 ha with ⟨h0, rfl⟩ | ⟨h1, -⟩
  · rcases hh with e | ⟨e1, e2⟩
    · omega
    · exact ⟨_, wtL_pos e1, rfl, rfl, e2⟩
  · exact ⟨a, h1, rfl, rfl, Int.le_refl _⟩
/-- With an arc that is lighter, or new, nothing is farther. -/
theorem lighter_near {N s u v x : Int} {L : List Arc3} (hok : weighedB N L u v x = true) (hs : 0 ≤ s ∧ s < N) (hx : 0 < x) (hh : wtL u v L ≤ 0 ∨ x < wtL u v L) {t : Int} (ht : 0 ≤ t ∧ t < N) (h : 0 ≤ dAt (distL N L s) t) :
    0 ≤ dAt (distL N (weighedL u v x L) s) t ∧ dAt (distL N (weighedL u v x L) s) t ≤ dAt (distL N L s) t := by
  unfold weighedB at hok
  simp only [Bool.and_eq_true] at hok
  have ho := hok.1.1.1
  have ho2 := hok.2
  have hN := (okB_elim ho).2.1
  have hs2 := (okB_elim ho).2.2.2.2
  refine IsDist.lighter (arcsIn_of_ok ho) (fun a ha => ?_) (distL_is (arcsIn_of_ok ho2) hN hs.1 hs.2) (distL_is (arcsIn_of_ok ho) hN hs.1 hs.2) _ t ht.1 ht.2 rfl h
  cases he : isEnds u v a with
  | false => exact ⟨a, (weighed_mem hs2).2 (.inr ⟨ha, he⟩), rfl, rfl, Int.le_refl _⟩
  | true =>
    have hw := wtL_mem hs2 ha
    have hp := (arcsIn_of_ok ho a ha).2.2.2.2.1
    simp [isEnds] at he
    obtain ⟨e1, e2⟩ := he
    rw [e1, e2] at hw
    refine ⟨(u, v, x), (weighed_mem hs2).2 (.inl ⟨hx, rfl⟩), e1.symm, e2.symm, ?_⟩
    show x ≤ a.2.2
    omega

end Go.Proofs.Ytdbjcojlcddhdaa

set_option linter.unusedSimpArgs false
set_option linter.unusedVariables false
namespace Go.Proofs.Ytdbjcojlcddhdaa
open Go.RowKit

theorem wtL_bounds {N u v : Int} {L : List Arc3} (ho : okB N L = true) : 0 ≤ wtL u v L ∧ wtL u v L ≤ 1000 := by
  have h := arcsIn_of_ok ho
  have key : ∀ (M : List Arc3), (∀ a ∈ M, 1 ≤ a.2.2 ∧ a.2.2 ≤ 1000) → 0 ≤ wtL u v M ∧ wtL u v M ≤ 1000 := by
    intro M
    induction M with
    | nil => intro _; simp [wtL]
    | cons a M ih =>
      intro hM
      unfold wtL
      split
      · have := hM a (by simp); omega
      · exact ih fun b hb => hM b (by simp [hb])
  exact key L fun a ha => by have := h a ha; omega

theorem dAt_at {D : List Int} {k : Nat} (hk : k < D.length) : dAt D (k : Int) = D[k] := by simp [dAt, hk]

end Go.Proofs.Ytdbjcojlcddhdaa

set_option linter.unusedSimpArgs false
set_option linter.unusedVariables false
namespace Go.Proofs.Ytdbjcojlcddhdaa
open Go.RowKit

theorem pair_eq {N u v : Int} {L : List Arc3} (h : okB N L = true) : pairB N u v = (nodeB N u && nodeB N v && !(u == v)) := by
  obtain ⟨h1, h2, _⟩ := okB_elim h
  have hw : wrap64 (N - 1) = N - 1 := IntWalk.wrap64_in _ (by omega)
  unfold pairB nodeB inB
  rw [hw, Bool.eq_iff_iff]
  simp
  omega
theorem weighed_len (u v x : Int) (L : List Arc3) : (weighedL u v x L).length ≤ L.length + 1 := by
  have h : (restL u v L).length ≤ L.length := by unfold restL; exact List.length_filter_le _ _
  unfold weighedL
  split
  · exact Nat.le_trans (putL_len _ _) (by omega)
  · omega

set_option maxRecDepth 100000 in
set_option maxHeartbeats 8000000 in
theorem specWeighed_any (N u v x : Int) (A : Option Addr) (n c : Nat) (L : List Arc3) (hn : n = L.length) (w : World) (hm : n ≤ 1048576) (H1 : ArcsAt w w.heap.size A L) :
    Calls Try.prog 18 #[.agg #[.int .i64 N, .slice A n c], .int .i64 u, .int .i64 v, .int .i64 x] w (WRes (weighedB N L u v x) N (weighedL u v x L) w) := by
  have K1 := Lib.hid H1
  have HN := Lib.hid hn
  clear H1 hn
  by_cases b1 : okB N L = true
  · have PE := Lib.hid (pair_eq (u := u) (v := v) b1)
    by_cases b2 : nodeB N u = true
    · by_cases b3 : nodeB N v = true
      · by_cases b4 : (u == v) = true
        · skip
          go_enter Try.func18, Try.ntmps18
          go_wp2_with fail
          refine (specOk_any N A n c L HN.out _ (by omega) (K1.out.bl (by repeat' (first | exact Bl.refl _ | with_reducible assumption | with_reducible refine Bl.drew_ ?_ | with_reducible refine Bl.drewN_ ?_ _ | with_reducible refine Bl.alloc_ ?_ _ | with_reducible refine Bl.trans_ ?_ (by assumption) | with_reducible refine Bl.trans_ ?_ (And.left (by assumption)))))).mono ?_
          rintro e w1 ⟨rfl, hb1⟩
          obtain ⟨h00, h01, h10, h11, f10, f11, hsz⟩ := box22 hb1
          go_wp2_with fail
          refine (l1Node_any N u _ _).mono ?_
          rintro e w2 ⟨rfl, hb2⟩
          have hb2 := hb1.trans_ hb2
          clear h00 h01 h10 h11 f10 f11 hsz
          obtain ⟨h00, h01, h10, h11, f10, f11, hsz⟩ := box22 hb2
          go_wp2_with fail
          refine (l1Node_any N v _ _).mono ?_
          rintro e w3 ⟨rfl, hb3⟩
          have hb3 := hb2.trans_ hb3
          clear h00 h01 h10 h11 f10 f11 hsz
          obtain ⟨h00, h01, h10, h11, f10, f11, hsz⟩ := box22 hb3
          go_wp2
          refine bodyPost_ret (v := .tuple #[.agg #[.int .i64 0, .slice none 0 0], .bool false]) (by simp [results, Try.results18, go_sem, h10, h11, f10, f11]) rfl (WRes.no (by unfold weighedB; rw [PE.out, b2, b3, b4]; simp) ?_)
          exact Bl.set_ (Bl.set_ ((Bl.alloc_ (Bl.alloc_ (Bl.refl w) _) _).trans_ hb3) (Nat.le_succ _) _) (Nat.le_succ _) _
        · have b4' : (u == v) = false := by simpa using b4
          clear b4
          by_cases b5 : inB x 0 1000 = true
          · have HWL := weighed_len u v x L
            have hlm : (weighedL u v x L).length ≤ 1048577 := by have := HN.out; omega
            clear HWL
            by_cases b6 : okB N (weighedL u v x L) = true
            · have HW := Lib.hid (show weighedB N L u v x = true from by unfold weighedB; rw [PE.out, b1, b2, b3, b4', b5, b6]; rfl)
              go_enter Try.func18, Try.ntmps18
              go_wp2_with fail
              refine (specOk_any N A n c L HN.out _ (by omega) (K1.out.bl (by repeat' (first | exact Bl.refl _ | with_reducible assumption | with_reducible refine Bl.drew_ ?_ | with_reducible refine Bl.drewN_ ?_ _ | with_reducible refine Bl.alloc_ ?_ _ | with_reducible refine Bl.trans_ ?_ (by assumption) | with_reducible refine Bl.trans_ ?_ (And.left (by assumption)))))).mono ?_
              rintro e w1 ⟨rfl, hb1⟩
              obtain ⟨h00, h01, h10, h11, f10, f11, hsz⟩ := box22 hb1
              go_wp2_with fail
              refine (l1Node_any N u _ _).mono ?_
              rintro e w2 ⟨rfl, hb2⟩
              have hb2 := hb1.trans_ hb2
              clear h00 h01 h10 h11 f10 f11 hsz
              obtain ⟨h00, h01, h10, h11, f10, f11, hsz⟩ := box22 hb2
              go_wp2_with fail
              refine (l1Node_any N v _ _).mono ?_
              rintro e w3 ⟨rfl, hb3⟩
              have hb3 := hb2.trans_ hb3
              clear h00 h01 h10 h11 f10 f11 hsz
              obtain ⟨h00, h01, h10, h11, f10, f11, hsz⟩ := box22 hb3
              go_wp2_with (go_at_call 57; refine (l1In_any _ _ _ _).mono ?_; rintro e w' ⟨rfl, rfl⟩)
              refine (l1Weigh_any N u v x A n c L HN.out _ hm (K1.out.bl (by repeat' (first | exact Bl.refl _ | with_reducible assumption | with_reducible refine Bl.drew_ ?_ | with_reducible refine Bl.drewN_ ?_ _ | with_reducible refine Bl.alloc_ ?_ _ | with_reducible refine Bl.trans_ ?_ (by assumption) | with_reducible refine Bl.trans_ ?_ (And.left (by assumption)))))).mono ?_
              rintro e w4 ⟨vv, rfl, hv, hb4⟩
              obtain ⟨AA, cc, rfl, hAA, _⟩ := hv.shape
              have V := Lib.hid (hv.low (B := w.heap.size + 2) (by have := hsz; omega))
              have HA := Lib.hid hAA
              clear hv hAA
              have hb4 := hb3.trans_ hb4
              clear h00 h01 h10 h11 f10 f11 hsz
              obtain ⟨h00, h01, h10, h11, f10, f11, hsz⟩ := box22 hb4
              go_wp2_with fail
              refine (specOk_any N AA _ cc (weighedL u v x L) rfl _ (by omega) (HA.out.bl (by repeat' (first | exact Bl.refl _ | with_reducible assumption | with_reducible refine Bl.drew_ ?_ | with_reducible refine Bl.drewN_ ?_ _ | with_reducible refine Bl.alloc_ ?_ _ | with_reducible refine Bl.trans_ ?_ (by assumption) | with_reducible refine Bl.trans_ ?_ (And.left (by assumption)))))).mono ?_
              rintro e w5 ⟨rfl, hb5⟩
              obtain ⟨x0, x1⟩ := box2 hb5
              have B5 : Bl w4 w5 := (Bl.alloc_ (Bl.refl w4) _).trans_ hb5
              have hb5' := hb4.trans_ B5
              clear h00 h01 h10 h11 f10 f11 hsz
              obtain ⟨h00, h01, h10, h11, f10, f11, hsz⟩ := box22 hb5'
              have Q5 : Bl w w5 := (Bl.alloc_ (Bl.alloc_ (Bl.refl w) _) _).trans_ hb5'
              go_wp2
              refine bodyPost_ret (v := .tuple #[.agg #[.int .i64 N, .slice AA (weighedL u v x L).length cc], .bool true]) (by simp [results, Try.results18, go_sem, h10, h11, f10, f11]) rfl ?_
              refine ⟨_, by rw [HW.out]; rfl, ?_, Bl.set_ (Bl.set_ Q5 (Nat.le_succ _) _) (Nat.le_succ _) _⟩
              rw [HW.out, if_pos rfl]
              exact (OwnA.set_ (OwnA.set_ (V.out.bl B5) (by show w.heap.size + 1 < _; omega) _) (by show w.heap.size + 1 < _; omega) _).low (by omega)
            · have b6' : okB N (weighedL u v x L) = false := by simpa using b6
              clear b6
              have HW := Lib.hid (show weighedB N L u v x = false from by unfold weighedB; rw [b6', Bool.and_false])
              go_enter Try.func18, Try.ntmps18
              go_wp2_with fail
              refine (specOk_any N A n c L HN.out _ (by omega) (K1.out.bl (by repeat' (first | exact Bl.refl _ | with_reducible assumption | with_reducible refine Bl.drew_ ?_ | with_reducible refine Bl.drewN_ ?_ _ | with_reducible refine Bl.alloc_ ?_ _ | with_reducible refine Bl.trans_ ?_ (by assumption) | with_reducible refine Bl.trans_ ?_ (And.left (by assumption)))))).mono ?_
              rintro e w1 ⟨rfl, hb1⟩
              obtain ⟨h00, h01, h10, h11, f10, f11, hsz⟩ := box22 hb1
              go_wp2_with fail
              refine (l1Node_any N u _ _).mono ?_
              rintro e w2 ⟨rfl, hb2⟩
              have hb2 := hb1.trans_ hb2
              clear h00 h01 h10 h11 f10 f11 hsz
              obtain ⟨h00, h01, h10, h11, f10, f11, hsz⟩ := box22 hb2
              go_wp2_with fail
              refine (l1Node_any N v _ _).mono ?_
              rintro e w3 ⟨rfl, hb3⟩
              have hb3 := hb2.trans_ hb3
              clear h00 h01 h10 h11 f10 f11 hsz
              obtain ⟨h00, h01, h10, h11, f10, f11, hsz⟩ := box22 hb3
              go_wp2_with (go_at_call 57; refine (l1In_any _ _ _ _).mono ?_; rintro e w' ⟨rfl, rfl⟩)
              refine (l1Weigh_any N u v x A n c L HN.out _ hm (K1.out.bl (by repeat' (first | exact Bl.refl _ | with_reducible assumption | with_reducible refine Bl.drew_ ?_ | with_reducible refine Bl.drewN_ ?_ _ | with_reducible refine Bl.alloc_ ?_ _ | with_reducible refine Bl.trans_ ?_ (by assumption) | with_reducible refine Bl.trans_ ?_ (And.left (by assumption)))))).mono ?_
              rintro e w4 ⟨vv, rfl, hv, hb4⟩
              obtain ⟨AA, cc, rfl, hAA, _⟩ := hv.shape
              have V := Lib.hid (hv.low (B := w.heap.size + 2) (by have := hsz; omega))
              have HA := Lib.hid hAA
              clear hv hAA
              have hb4 := hb3.trans_ hb4
              clear h00 h01 h10 h11 f10 f11 hsz
              obtain ⟨h00, h01, h10, h11, f10, f11, hsz⟩ := box22 hb4
              go_wp2_with fail
              refine (specOk_any N AA _ cc (weighedL u v x L) rfl _ (by omega) (HA.out.bl (by repeat' (first | exact Bl.refl _ | with_reducible assumption | with_reducible refine Bl.drew_ ?_ | with_reducible refine Bl.drewN_ ?_ _ | with_reducible refine Bl.alloc_ ?_ _ | with_reducible refine Bl.trans_ ?_ (by assumption) | with_reducible refine Bl.trans_ ?_ (And.left (by assumption)))))).mono ?_
              rintro e w5 ⟨rfl, hb5⟩
              obtain ⟨x0, x1⟩ := box2 hb5
              have B5 : Bl w4 w5 := (Bl.alloc_ (Bl.refl w4) _).trans_ hb5
              have hb5' := hb4.trans_ B5
              clear h00 h01 h10 h11 f10 f11 hsz
              obtain ⟨h00, h01, h10, h11, f10, f11, hsz⟩ := box22 hb5'
              have Q5 : Bl w w5 := (Bl.alloc_ (Bl.alloc_ (Bl.refl w) _) _).trans_ hb5'
              go_wp2
              refine bodyPost_ret (v := .tuple #[.agg #[.int .i64 0, .slice none 0 0], .bool false]) (by simp [results, Try.results18, go_sem, h10, h11, f10, f11]) rfl (WRes.no HW.out ?_)
              exact Bl.set_ (Bl.set_ Q5 (Nat.le_succ _) _) (Nat.le_succ _) _
          · have b5' : inB x 0 1000 = false := by simpa using b5
            clear b5
            go_enter Try.func18, Try.ntmps18
            go_wp2_with fail
            refine (specOk_any N A n c L HN.out _ (by omega) (K1.out.bl (by repeat' (first | exact Bl.refl _ | with_reducible assumption | with_reducible refine Bl.drew_ ?_ | with_reducible refine Bl.drewN_ ?_ _ | with_reducible refine Bl.alloc_ ?_ _ | with_reducible refine Bl.trans_ ?_ (by assumption) | with_reducible refine Bl.trans_ ?_ (And.left (by assumption)))))).mono ?_
            rintro e w1 ⟨rfl, hb1⟩
            obtain ⟨h00, h01, h10, h11, f10, f11, hsz⟩ := box22 hb1
            go_wp2_with fail
            refine (l1Node_any N u _ _).mono ?_
            rintro e w2 ⟨rfl, hb2⟩
            have hb2 := hb1.trans_ hb2
            clear h00 h01 h10 h11 f10 f11 hsz
            obtain ⟨h00, h01, h10, h11, f10, f11, hsz⟩ := box22 hb2
            go_wp2_with fail
            refine (l1Node_any N v _ _).mono ?_
            rintro e w3 ⟨rfl, hb3⟩
            have hb3 := hb2.trans_ hb3
            clear h00 h01 h10 h11 f10 f11 hsz
            obtain ⟨h00, h01, h10, h11, f10, f11, hsz⟩ := box22 hb3
            go_wp2_with (go_at_call 57; refine (l1In_any _ _ _ _).mono ?_; rintro e w' ⟨rfl, rfl⟩)
            refine bodyPost_ret (v := .tuple #[.agg #[.int .i64 0, .slice none 0 0], .bool false]) (by simp [results, Try.results18, go_sem, h10, h11, f10, f11]) rfl (WRes.no (by unfold weighedB; rw [b5', Bool.and_false, Bool.false_and]) ?_)
            exact Bl.set_ (Bl.set_ ((Bl.alloc_ (Bl.alloc_ (Bl.refl w) _) _).trans_ hb3) (Nat.le_succ _) _) (Nat.le_succ _) _
      · have b3' : nodeB N v = false := by simpa using b3
        clear b3
        go_enter Try.func18, Try.ntmps18
        go_wp2_with fail
        refine (specOk_any N A n c L HN.out _ (by omega) (K1.out.bl (by repeat' (first | exact Bl.refl _ | with_reducible assumption | with_reducible refine Bl.drew_ ?_ | with_reducible refine Bl.drewN_ ?_ _ | with_reducible refine Bl.alloc_ ?_ _ | with_reducible refine Bl.trans_ ?_ (by assumption) | with_reducible refine Bl.trans_ ?_ (And.left (by assumption)))))).mono ?_
        rintro e w1 ⟨rfl, hb1⟩
        obtain ⟨h00, h01, h10, h11, f10, f11, hsz⟩ := box22 hb1
        go_wp2_with fail
        refine (l1Node_any N u _ _).mono ?_
        rintro e w2 ⟨rfl, hb2⟩
        have hb2 := hb1.trans_ hb2
        clear h00 h01 h10 h11 f10 f11 hsz
        obtain ⟨h00, h01, h10, h11, f10, f11, hsz⟩ := box22 hb2
        go_wp2_with fail
        refine (l1Node_any N v _ _).mono ?_
        rintro e w3 ⟨rfl, hb3⟩
        have hb3 := hb2.trans_ hb3
        clear h00 h01 h10 h11 f10 f11 hsz
        obtain ⟨h00, h01, h10, h11, f10, f11, hsz⟩ := box22 hb3
        go_wp2
        refine bodyPost_ret (v := .tuple #[.agg #[.int .i64 0, .slice none 0 0], .bool false]) (by simp [results, Try.results18, go_sem, h10, h11, f10, f11]) rfl (WRes.no (by unfold weighedB; rw [PE.out, b3']; simp) ?_)
        exact Bl.set_ (Bl.set_ ((Bl.alloc_ (Bl.alloc_ (Bl.refl w) _) _).trans_ hb3) (Nat.le_succ _) _) (Nat.le_succ _) _
    · have b2' : nodeB N u = false := by simpa using b2
      clear b2
      go_enter Try.func18, Try.ntmps18
      go_wp2_with fail
      refine (specOk_any N A n c L HN.out _ (by omega) (K1.out.bl (by repeat' (first | exact Bl.refl _ | with_reducible assumption | with_reducible refine Bl.drew_ ?_ | with_reducible refine Bl.drewN_ ?_ _ | with_reducible refine Bl.alloc_ ?_ _ | with_reducible refine Bl.trans_ ?_ (by assumption) | with_reducible refine Bl.trans_ ?_ (And.left (by assumption)))))).mono ?_
      rintro e w1 ⟨rfl, hb1⟩
      obtain ⟨h00, h01, h10, h11, f10, f11, hsz⟩ := box22 hb1
      go_wp2_with fail
      refine (l1Node_any N u _ _).mono ?_
      rintro e w2 ⟨rfl, hb2⟩
      have hb2 := hb1.trans_ hb2
      clear h00 h01 h10 h11 f10 f11 hsz
      obtain ⟨h00, h01, h10, h11, f10, f11, hsz⟩ := box22 hb2
      go_wp2
      refine bodyPost_ret (v := .tuple #[.agg #[.int .i64 0, .slice none 0 0], .bool false]) (by simp [results, Try.results18, go_sem, h10, h11, f10, f11]) rfl (WRes.no (by unfold weighedB; rw [PE.out, b2']; simp) ?_)
      exact Bl.set_ (Bl.set_ ((Bl.alloc_ (Bl.alloc_ (Bl.refl w) _) _).trans_ hb2) (Nat.le_succ _) _) (Nat.le_succ _) _
  · have b1' : okB N L = false := by simpa using b1
    clear b1
    go_enter Try.func18, Try.ntmps18
    go_wp2_with fail
    refine (specOk_any N A n c L HN.out _ (by omega) (K1.out.bl (by repeat' (first | exact Bl.refl _ | with_reducible assumption | with_reducible refine Bl.drew_ ?_ | with_reducible refine Bl.drewN_ ?_ _ | with_reducible refine Bl.alloc_ ?_ _ | with_reducible refine Bl.trans_ ?_ (by assumption) | with_reducible refine Bl.trans_ ?_ (And.left (by assumption)))))).mono ?_
    rintro e w1 ⟨rfl, hb1⟩
    obtain ⟨h00, h01, h10, h11, f10, f11, hsz⟩ := box22 hb1
    go_wp2
    refine bodyPost_ret (v := .tuple #[.agg #[.int .i64 0, .slice none 0 0], .bool false]) (by simp [results, Try.results18, go_sem, h10, h11, f10, f11]) rfl (WRes.no (by unfold weighedB; rw [b1']; simp) ?_)
    exact Bl.set_ (Bl.set_ ((Bl.alloc_ (Bl.alloc_ (Bl.refl w) _) _).trans_ hb1) (Nat.le_succ _) _) (Nat.le_succ _) _

end Go.Proofs.Ytdbjcojlcddhdaa

set_option linter.unusedSimpArgs false
set_option linter.unusedVariables false
namespace Go.Proofs.Ytdbjcojlcddhdaa
open Go.RowKit

theorem OwnA.caps {w : World} {B : Nat} {v : Value} {L : List Arc3} (h : OwnA w B v L) : ∀ A l c, v = .slice A l c → L.length ≤ c ∧ c ≤ 9223372036854775807 := fun A l c ev => by
  subst ev
  have h' : w.ownsRow B 51 3 (.slice A l c) L.length (cs3 L) := h
  rcases h'.2 with ⟨e, h0⟩ | ⟨g, cap, cur, e, hB, hg, hnc, hcm, -⟩
  · injection e with e1 e2 e3
    omega
  · injection e with e1 e2 e3
    unfold maxLen at hcm
    omega
theorem WRes.yes {N : Int} {M : List Arc3} {w w' : World} {e : Ending} (h : WRes true N M w e w') : ∃ v, e = .returned (.tuple #[.agg #[.int .i64 N, v], .bool true]) ∧ OwnA w' w.heap.size v M ∧ Bl w w' := by
  obtain ⟨v, h1, h2, h3⟩ := h
  exact ⟨v, h1, h2, h3⟩
theorem WRes.nay {N : Int} {M : List Arc3} {w w' : World} {e : Ending} (h : WRes false N M w e w') : ∃ v, e = .returned (.tuple #[.agg #[.int .i64 0, v], .bool false]) ∧ OwnA w' w.heap.size v [] ∧ Bl w w' := by
  obtain ⟨v, h1, h2, h3⟩ := h
  exact ⟨v, h1, h2, h3⟩

theorem weighedB_x {N : Int} {L : List Arc3} {u v x : Int} (h : weighedB N L u v x = true) : 0 ≤ x ∧ x ≤ 1000 := by
  unfold weighedB at h
  simp only [Bool.and_eq_true] at h
  have := h.1.2
  unfold inB at this
  simpa using this
theorem weighedB_ok {N : Int} {L : List Arc3} {u v x : Int} (h : weighedB N L u v x = true) : okB N L = true ∧ okB N (weighedL u v x L) = true := by
  unfold weighedB at h
  simp only [Bool.and_eq_true] at h
  exact ⟨h.1.1.1, h.2⟩


theorem distFromL_yes {N s : Int} {L : List Arc3} (ho : okB N L = true) (hs : 0 ≤ s ∧ s < N) : distFromL N L s = distL N L s ∧ (distL N L s).length = N.toNat := by
  refine ⟨?_, distL_len ho hs.1 hs.2⟩
  unfold distFromL
  rw [if_pos (by unfold has1; rw [ho, Bool.true_and, decide_eq_true_eq]; exact hs)]

set_option maxRecDepth 100000 in
set_option maxHeartbeats 8000000 in
theorem lawHeavier_any (A : Option Addr) (n c : Nat) (w : World) (H : BytesAt w A n) :
    Calls Try.prog 5 #[.slice A n c] w fun e w' => e = .returned (.bool true) ∧ Bl w w' := by
  have K := Lib.hid H
  clear H
  by_cases hbig : (1048576 : Int) < (n : Int)
  · have hb : decide ((1048576 : Int) < (n : Int)) = true := by simpa using hbig
    clear hbig
    go_enter Try.func5, Try.ntmps5
    go_wp2_with (go_at_call 15; refine (big_any _ _ _ _).mono ?_; rintro e w' ⟨rfl, rfl⟩)
    go_ret
    exact ⟨rfl, (by repeat' (first | exact Bl.refl _ | with_reducible assumption | with_reducible refine Bl.drew_ ?_ | with_reducible refine Bl.drewN_ ?_ _ | with_reducible refine Bl.alloc_ ?_ _ | with_reducible refine Bl.trans_ ?_ (by assumption) | with_reducible refine Bl.trans_ ?_ (And.left (by assumption))))⟩
  · have hb : decide ((1048576 : Int) < (n : Int)) = false := by simpa using hbig
    have hn : n ≤ 1099511627776 := by omega
    clear hbig
    go_enter Try.func5, Try.ntmps5
    go_wp2_with fail
    refine (big_any _ _ _ _).mono ?_
    rintro e w1 ⟨rfl, rfl⟩
    go_wp2_with fail
    refine (drawWeighed_any A n c _ hn K.out).mono ?_
    rintro e w1 ⟨N, A', l, c', L, u, v, x, rfl, hd, hx, hb1⟩
    obtain ⟨ha, -⟩ := hd.arcs
    obtain ⟨hlc', hcm⟩ := hd.2.2.2.caps _ _ _ rfl
    have HL := Lib.hid hd.1
    have hlc : l ≤ c' := by have := hd.1; omega
    have hl200 := hd.2.1
    have HA := Lib.hid (ha.bl (Bl.alloc_ (Bl.refl w1) (.cells #[.int .i64 N, .slice A' l c'] 26)))
    have B1 := Lib.hid (hb1.alloc_ (.cells #[.int .i64 N, .slice A' l c'] 26))
    clear hd hx hb1 ha hlc'
    go_wp2_with fail
    refine (implWeighedW_any N u v x A' l c' L HL.out hlc hcm _ (by omega) HA.out).mono ?_
    cases hok : weighedB N L u v x with
    | false =>
      have OK := Lib.hid hok
      clear hok
      intro e w2 hres
      obtain ⟨v2, rfl, hv2, hb2⟩ := hres.nay
      obtain ⟨A2, c2, rfl, ha2, -⟩ := hv2.shape
      rw [List.length_nil]
      have X2 := Lib.hid (hb2.alloc_ (.cells #[.int .i64 0, .slice A2 0 c2] 26))
      obtain ⟨q0, q1⟩ := box2 X2.out
      clear hres hv2 ha2 hb2
      go_wp2_with fail
      refine (specWeighed_any N u v x A' l c' L HL.out _ (by omega) (HA.out.bl X2.out)).mono ?_
      rw [OK.out]
      intro e w3 hres
      obtain ⟨v3, rfl, hv3, hb3⟩ := hres.nay
      obtain ⟨A3, c3, rfl, ha3, -⟩ := hv3.shape
      rw [List.length_nil]
      clear hres hv3 ha3 q0 q1
      go_wp2
      go_ret
      exact ⟨rfl, B1.out.trans_ (X2.out.trans_ (hb3.alloc_ _))⟩
    | true =>
      have OK := Lib.hid hok
      obtain ⟨ho, ho2⟩ := weighedB_ok hok
      have hxb := weighedB_x hok
      have HO := Lib.hid ho
      have HO2 := Lib.hid ho2
      have HW := Lib.hid (show ∀ s t, weightOf N L s t = wtL s t L from fun s t => if_pos ho)
      have hN1 := (okB_elim ho).1
      have hN24 := (okB_elim ho).2.1
      obtain ⟨k, hk⟩ : ∃ k, k = (weighedL u v x L).length := ⟨_, rfl⟩
      have hk2 : k ≤ 201 := by rw [hk]; have := weighed_len u v x L; have := HL.out; omega
      have HK := Lib.hid hk
      clear hok ho ho2
      intro e w2 hres
      obtain ⟨v2, rfl, hv2, hb2⟩ := hres.yes
      have hcaps := hv2.caps
      obtain ⟨A2, c2, rfl, ha2, -⟩ := hv2.shape
      obtain ⟨hc2, hm2⟩ := hcaps _ _ _ rfl
      have V2 := Lib.hid ha2
      rw [← hk]
      rw [← hk] at hc2
      have X2 := Lib.hid (hb2.alloc_ (.cells #[.int .i64 N, .slice A2 k c2] 26))
      obtain ⟨q0, q1⟩ := box2 X2.out
      clear hres hv2 ha2 hb2 hk hcaps
      go_wp2_with fail
      refine (specWeighed_any N u v x A' l c' L HL.out _ (by omega) (HA.out.bl X2.out)).mono ?_
      rw [OK.out]
      intro e w3 hres
      obtain ⟨v3, rfl, hv3, hb3⟩ := hres.yes
      obtain ⟨A3, c3, rfl, ha3, -⟩ := hv3.shape
      rw [← HK.out]
      have X3 := Lib.hid (hb3.alloc_ (.cells #[.int .i64 N, .slice A3 k c3] 26))
      clear hres hv3 ha3 hb3 q0 q1
      have P3 := Lib.hid (X2.out.trans_ X3.out)
      obtain ⟨q0, q1⟩ := box2 P3.out
      go_wp2_with fail
      refine (implWeight_any N u v A' l c' L HL.out _ (by omega) (HA.out.bl P3.out)).mono ?_
      rintro e w7 ⟨rfl, hb7⟩
      rw [HW.out]
      have WB := wtL_bounds (u := u) (v := v) HO.out
      have HEAVY := Lib.hid (fun (s : Int) (hs : 0 ≤ s ∧ s < N) hh (t : Int) (ht : 0 ≤ t ∧ t < N) => heavier_far (s := s) OK.out hs hh ht)
      have LIGHT := Lib.hid (fun (s : Int) (hs : 0 ≤ s ∧ s < N) hx hh (t : Int) (ht : 0 ≤ t ∧ t < N) => lighter_near (s := s) OK.out hs hx hh ht)
      generalize wtL u v L = o at *
      obtain ⟨z, rfl⟩ : ∃ z : Nat, N = z := ⟨N.toNat, by omega⟩
      have BX := Lib.hid (show ∀ wy, Bl w7 wy → (wy.cell? ⟨w1.heap.size, 0, none⟩ = some (.int .i64 (z : Int)) ∧ wy.cell? ⟨w1.heap.size, 1, none⟩ = some (.slice A' l c')) ∧ (wy.cell? ⟨w2.heap.size, 0, none⟩ = some (.int .i64 (z : Int)) ∧ wy.cell? ⟨w2.heap.size, 1, none⟩ = some (.slice A2 k c2)) from fun wy hy =>
        ⟨box2 (P3.out.trans_ (hb7.trans_ hy)), box2 (X3.out.trans_ (hb7.trans_ hy))⟩)
      have BG := Lib.hid (show ∀ wy, Bl w7 wy → ArcsAt wy wy.heap.size A' L ∧ ArcsAt wy wy.heap.size A2 (weighedL u v x L) from fun wy hy => ⟨HA.out.bl (P3.out.trans_ (hb7.trans_ hy)), V2.out.bl ((Bl.alloc_ (Bl.refl w2) _).trans_ (X3.out.trans_ (hb7.trans_ hy)))⟩)
      have BF := Lib.hid (show ∀ wy, Bl w7 wy → Bl w wy from fun wy hy => B1.out.trans_ (P3.out.trans_ (hb7.trans_ hy)))
      have DL := Lib.hid (show ∀ s : Int, 0 ≤ s ∧ s < (z : Int) → (distFromL z L s = distL z L s ∧ (distL z L s).length = z) ∧ (distFromL z (weighedL u v x L) s = distL z (weighedL u v x L) s ∧ (distL z (weighedL u v x L) s).length = z) from fun s hs => by
        have h1 := distFromL_yes (L := L) HO.out hs
        have h2 := distFromL_yes (L := weighedL u v x L) HO2.out hs
        rw [Int.toNat_natCast] at h1 h2
        exact ⟨h1, h2⟩)
      generalize weighedL u v x L = M at *
      clear q0 q1 hb7 V2 X2 X3 P3 OK
      obtain ⟨⟨q0, q1⟩, q2, q3⟩ := BX.out _ (Bl.refl w7)
      by_cases x0 : x = 0
      · have b0 : (x == 0) = true := by simpa using x0
        go_wp2_with fail
        clear q0 q1 q2 q3
        go_loopw [13] (fun i wr => ∃ j : Nat, j ≤ z ∧ i = .int .i64 j ∧ Bl w7 wr) (fun i _ => z - (intOf i).toNat)
        case atStart => exact ⟨0, by omega, rfl, Bl.refl _⟩
        case round =>
          obtain ⟨j, hj, rfl, hbl⟩ := hrel
          obtain ⟨⟨q0, q1⟩, q2, q3⟩ := BX.out _ hbl
          by_cases hlt : j < z
          · have i1 : (j : Int) < (z : Int) := by omega
            obtain ⟨⟨d1, d2⟩, d3, d4⟩ := DL.out j ⟨by omega, i1⟩
            have FAR := Lib.hid (fun (t : Int) ht => HEAVY.out j ⟨by omega, i1⟩ (.inl x0) t ht)
            go_wp2_with fail
            refine (implDistFrom_any z j A' l c' L HL.out hlc _ (by omega) (BG.out _ hbl).1).mono ?_
            rintro e w8 ⟨v8, rfl, hv8, hb8⟩
            rw [d1] at hv8
            obtain ⟨A8, c8, rfl, -, hi8, -, -⟩ := OwnN.shape hv8
            rw [d2]
            have I8 := Lib.hid hi8
            have B8 := Lib.hid (hbl.trans_ hb8)
            clear hv8 hi8 hb8 q0 q1 q2 q3
            obtain ⟨⟨q0, q1⟩, q2, q3⟩ := BX.out _ B8.out
            go_wp2_with fail
            refine (implDistFrom_any z j A2 k c2 M HK.out hc2 _ (by omega) (BG.out _ B8.out).2).mono ?_
            rintro e w9 ⟨v9, rfl, hv9, hb9⟩
            rw [d3] at hv9
            obtain ⟨A9, c9, rfl, -, hi9, -, -⟩ := OwnN.shape hv9
            rw [d4]
            have I9 := Lib.hid hi9
            have B9 := Lib.hid (B8.out.trans_ hb9)
            have J8 := Lib.hid (I8.out.bl hb9)
            have EL1 := Lib.hid d2
            have EL2 := Lib.hid d4
            clear hv9 hi9 hb9 q0 q1 q2 q3 d1 d2 d3 d4
            generalize distL (z : Int) L j = D at *
            generalize distL (z : Int) M j = E at *
            obtain ⟨⟨q0, q1⟩, q2, q3⟩ := BX.out _ B9.out
            have hzz : ((z : Int) != (z : Int)) = false := by simp
            go_wp2_with fail
            clear q0 q1 q2 q3
            go_loopw [17] (fun i wx => ∃ q : Nat, q ≤ z ∧ i = .int .i64 q ∧ Bl w9 wx) (fun i _ => z - (intOf i).toNat)
            case atStart => exact ⟨0, by omega, rfl, Bl.refl _⟩
            case round =>
              clear hbl
              obtain ⟨q, hq, rfl, hbl⟩ := hrel
              have hgb := B9.out.trans_ hbl
              obtain ⟨⟨q0, q1⟩, q2, q3⟩ := BX.out _ hgb
              by_cases hlt2 : q < z
              · have i2 : (q : Int) < (z : Int) := by omega
                have i3 : (0 : Int) ≤ (q : Int) := by omega
                have hqD : q < D.length := by rw [EL1.out]; exact hlt2
                have hqE : q < E.length := by rw [EL2.out]; exact hlt2
                obtain ⟨g1, o1, rfl, hg1, hc1⟩ := (J8.out.bl hbl).cell (by omega)
                obtain ⟨g2, o2, rfl, hg2, hc2'⟩ := (I9.out.bl hbl).cell (by omega)
                have p1 := hc1 q hqD
                have p2 := hc2' q hqE
                have F := Lib.hid (FAR.out q ⟨i3, i2⟩)
                rw [dAt_at hqD, dAt_at hqE] at F
                clear hc1 hc2'
                generalize D[q] = d at *
                generalize E[q] = e at *
                by_cases e1 : 0 ≤ e
                · have b1 : decide (0 ≤ e) = true := by simpa using e1
                  obtain ⟨f1, f2⟩ := F.out e1
                  have b2 : decide (d < 0) = false := by simpa using f1
                  have b3 : decide (e < d) = false := by simpa using f2
                  clear f1 f2 F e1
                  go_wp2
                  go_quiet (fail)
                  go_wp2
                  go_roundw
                  case rel => exact ⟨q + 1, by omega, by go_num, (by repeat' (first | exact Bl.refl _ | with_reducible assumption | with_reducible refine Bl.drew_ ?_ | with_reducible refine Bl.drewN_ ?_ _ | with_reducible refine Bl.alloc_ ?_ _ | with_reducible refine Bl.trans_ ?_ (by assumption) | with_reducible refine Bl.trans_ ?_ (And.left (by assumption))))⟩
                  case measure => simp [intOf]; omega
                · have b1 : decide (0 ≤ e) = false := by simpa using e1
                  clear F e1
                  go_wp2
                  go_quiet (fail)
                  go_wp2
                  go_roundw
                  case rel => exact ⟨q + 1, by omega, by go_num, (by repeat' (first | exact Bl.refl _ | with_reducible assumption | with_reducible refine Bl.drew_ ?_ | with_reducible refine Bl.drewN_ ?_ _ | with_reducible refine Bl.alloc_ ?_ _ | with_reducible refine Bl.trans_ ?_ (by assumption) | with_reducible refine Bl.trans_ ?_ (And.left (by assumption))))⟩
                  case measure => simp [intOf]; omega
              · obtain rfl : q = z := by omega
                go_wp2
                go_roundw
                case rel => exact ⟨j + 1, by omega, by go_num, hgb⟩
                case measure => simp [intOf]; omega
          · obtain rfl : j = z := by omega
            go_wp2
            go_ret
            exact ⟨rfl, BF.out _ hbl⟩
      · have b0 : (x == 0) = false := by simpa using x0
        by_cases o0 : 0 < o
        · have c0 : decide (0 < o) = true := by simpa using o0
          by_cases o1 : o ≤ x
          · have c1 : decide (o ≤ x) = true := by simpa using o1
            go_wp2_with fail
            clear q0 q1 q2 q3
            go_loopw [13] (fun i wr => ∃ j : Nat, j ≤ z ∧ i = .int .i64 j ∧ Bl w7 wr) (fun i _ => z - (intOf i).toNat)
            case atStart => exact ⟨0, by omega, rfl, Bl.refl _⟩
            case round =>
              obtain ⟨j, hj, rfl, hbl⟩ := hrel
              obtain ⟨⟨q0, q1⟩, q2, q3⟩ := BX.out _ hbl
              by_cases hlt : j < z
              · have i1 : (j : Int) < (z : Int) := by omega
                obtain ⟨⟨d1, d2⟩, d3, d4⟩ := DL.out j ⟨by omega, i1⟩
                have FAR := Lib.hid (fun (t : Int) ht => HEAVY.out j ⟨by omega, i1⟩ (.inr ⟨o0, o1⟩) t ht)
                go_wp2_with fail
                refine (implDistFrom_any z j A' l c' L HL.out hlc _ (by omega) (BG.out _ hbl).1).mono ?_
                rintro e w8 ⟨v8, rfl, hv8, hb8⟩
                rw [d1] at hv8
                obtain ⟨A8, c8, rfl, -, hi8, -, -⟩ := OwnN.shape hv8
                rw [d2]
                have I8 := Lib.hid hi8
                have B8 := Lib.hid (hbl.trans_ hb8)
                clear hv8 hi8 hb8 q0 q1 q2 q3
                obtain ⟨⟨q0, q1⟩, q2, q3⟩ := BX.out _ B8.out
                go_wp2_with fail
                refine (implDistFrom_any z j A2 k c2 M HK.out hc2 _ (by omega) (BG.out _ B8.out).2).mono ?_
                rintro e w9 ⟨v9, rfl, hv9, hb9⟩
                rw [d3] at hv9
                obtain ⟨A9, c9, rfl, -, hi9, -, -⟩ := OwnN.shape hv9
                rw [d4]
                have I9 := Lib.hid hi9
                have B9 := Lib.hid (B8.out.trans_ hb9)
                have J8 := Lib.hid (I8.out.bl hb9)
                have EL1 := Lib.hid d2
                have EL2 := Lib.hid d4
                clear hv9 hi9 hb9 q0 q1 q2 q3 d1 d2 d3 d4
                generalize distL (z : Int) L j = D at *
                generalize distL (z : Int) M j = E at *
                obtain ⟨⟨q0, q1⟩, q2, q3⟩ := BX.out _ B9.out
                have hzz : ((z : Int) != (z : Int)) = false := by simp
                go_wp2_with fail
                clear q0 q1 q2 q3
                go_loopw [17] (fun i wx => ∃ q : Nat, q ≤ z ∧ i = .int .i64 q ∧ Bl w9 wx) (fun i _ => z - (intOf i).toNat)
                case atStart => exact ⟨0, by omega, rfl, Bl.refl _⟩
                case round =>
                  clear hbl
                  obtain ⟨q, hq, rfl, hbl⟩ := hrel
                  have hgb := B9.out.trans_ hbl
                  obtain ⟨⟨q0, q1⟩, q2, q3⟩ := BX.out _ hgb
                  by_cases hlt2 : q < z
                  · have i2 : (q : Int) < (z : Int) := by omega
                    have i3 : (0 : Int) ≤ (q : Int) := by omega
                    have hqD : q < D.length := by rw [EL1.out]; exact hlt2
                    have hqE : q < E.length := by rw [EL2.out]; exact hlt2
                    obtain ⟨g1, o1, rfl, hg1, hc1⟩ := (J8.out.bl hbl).cell (by omega)
                    obtain ⟨g2, o2, rfl, hg2, hc2'⟩ := (I9.out.bl hbl).cell (by omega)
                    have p1 := hc1 q hqD
                    have p2 := hc2' q hqE
                    have F := Lib.hid (FAR.out q ⟨i3, i2⟩)
                    rw [dAt_at hqD, dAt_at hqE] at F
                    clear hc1 hc2'
                    generalize D[q] = d at *
                    generalize E[q] = e at *
                    by_cases e1 : 0 ≤ e
                    · have b1 : decide (0 ≤ e) = true := by simpa using e1
                      obtain ⟨f1, f2⟩ := F.out e1
                      have b2 : decide (d < 0) = false := by simpa using f1
                      have b3 : decide (e < d) = false := by simpa using f2
                      clear f1 f2 F e1
                      go_wp2
                      go_quiet (fail)
                      go_wp2
                      go_roundw
                      case rel => exact ⟨q + 1, by omega, by go_num, (by repeat' (first | exact Bl.refl _ | with_reducible assumption | with_reducible refine Bl.drew_ ?_ | with_reducible refine Bl.drewN_ ?_ _ | with_reducible refine Bl.alloc_ ?_ _ | with_reducible refine Bl.trans_ ?_ (by assumption) | with_reducible refine Bl.trans_ ?_ (And.left (by assumption))))⟩
                      case measure => simp [intOf]; omega
                    · have b1 : decide (0 ≤ e) = false := by simpa using e1
                      clear F e1
                      go_wp2
                      go_quiet (fail)
                      go_wp2
                      go_roundw
                      case rel => exact ⟨q + 1, by omega, by go_num, (by repeat' (first | exact Bl.refl _ | with_reducible assumption | with_reducible refine Bl.drew_ ?_ | with_reducible refine Bl.drewN_ ?_ _ | with_reducible refine Bl.alloc_ ?_ _ | with_reducible refine Bl.trans_ ?_ (by assumption) | with_reducible refine Bl.trans_ ?_ (And.left (by assumption))))⟩
                      case measure => simp [intOf]; omega
                  · obtain rfl : q = z := by omega
                    go_wp2
                    go_roundw
                    case rel => exact ⟨j + 1, by omega, by go_num, hgb⟩
                    case measure => simp [intOf]; omega
              · obtain rfl : j = z := by omega
                go_wp2
                go_ret
                exact ⟨rfl, BF.out _ hbl⟩
          · have c1 : decide (o ≤ x) = false := by simpa using o1
            go_wp2_with fail
            clear q0 q1 q2 q3
            go_loopw [13] (fun i wr => ∃ j : Nat, j ≤ z ∧ i = .int .i64 j ∧ Bl w7 wr) (fun i _ => z - (intOf i).toNat)
            case atStart => exact ⟨0, by omega, rfl, Bl.refl _⟩
            case round =>
              obtain ⟨j, hj, rfl, hbl⟩ := hrel
              obtain ⟨⟨q0, q1⟩, q2, q3⟩ := BX.out _ hbl
              by_cases hlt : j < z
              · have i1 : (j : Int) < (z : Int) := by omega
                obtain ⟨⟨d1, d2⟩, d3, d4⟩ := DL.out j ⟨by omega, i1⟩
                have FAR := Lib.hid (fun (t : Int) ht => LIGHT.out j ⟨by omega, i1⟩ (by omega) (.inr (by omega)) t ht)
                go_wp2_with fail
                refine (implDistFrom_any z j A' l c' L HL.out hlc _ (by omega) (BG.out _ hbl).1).mono ?_
                rintro e w8 ⟨v8, rfl, hv8, hb8⟩
                rw [d1] at hv8
                obtain ⟨A8, c8, rfl, -, hi8, -, -⟩ := OwnN.shape hv8
                rw [d2]
                have I8 := Lib.hid hi8
                have B8 := Lib.hid (hbl.trans_ hb8)
                clear hv8 hi8 hb8 q0 q1 q2 q3
                obtain ⟨⟨q0, q1⟩, q2, q3⟩ := BX.out _ B8.out
                go_wp2_with fail
                refine (implDistFrom_any z j A2 k c2 M HK.out hc2 _ (by omega) (BG.out _ B8.out).2).mono ?_
                rintro e w9 ⟨v9, rfl, hv9, hb9⟩
                rw [d3] at hv9
                obtain ⟨A9, c9, rfl, -, hi9, -, -⟩ := OwnN.shape hv9
                rw [d4]
                have I9 := Lib.hid hi9
                have B9 := Lib.hid (B8.out.trans_ hb9)
                have J8 := Lib.hid (I8.out.bl hb9)
                have EL1 := Lib.hid d2
                have EL2 := Lib.hid d4
                clear hv9 hi9 hb9 q0 q1 q2 q3 d1 d2 d3 d4
                generalize distL (z : Int) L j = D at *
                generalize distL (z : Int) M j = E at *
                obtain ⟨⟨q0, q1⟩, q2, q3⟩ := BX.out _ B9.out
                have hzz : ((z : Int) != (z : Int)) = false := by simp
                go_wp2_with fail
                clear q0 q1 q2 q3
                go_loopw [17] (fun i wx => ∃ q : Nat, q ≤ z ∧ i = .int .i64 q ∧ Bl w9 wx) (fun i _ => z - (intOf i).toNat)
                case atStart => exact ⟨0, by omega, rfl, Bl.refl _⟩
                case round =>
                  clear hbl
                  obtain ⟨q, hq, rfl, hbl⟩ := hrel
                  have hgb := B9.out.trans_ hbl
                  obtain ⟨⟨q0, q1⟩, q2, q3⟩ := BX.out _ hgb
                  by_cases hlt2 : q < z
                  · have i2 : (q : Int) < (z : Int) := by omega
                    have i3 : (0 : Int) ≤ (q : Int) := by omega
                    have hqD : q < D.length := by rw [EL1.out]; exact hlt2
                    have hqE : q < E.length := by rw [EL2.out]; exact hlt2
                    obtain ⟨g1, o1, rfl, hg1, hc1⟩ := (J8.out.bl hbl).cell (by omega)
                    obtain ⟨g2, o2, rfl, hg2, hc2'⟩ := (I9.out.bl hbl).cell (by omega)
                    have p1 := hc1 q hqD
                    have p2 := hc2' q hqE
                    have F := Lib.hid (FAR.out q ⟨i3, i2⟩)
                    rw [dAt_at hqD, dAt_at hqE] at F
                    clear hc1 hc2'
                    generalize D[q] = d at *
                    generalize E[q] = e at *
                    by_cases e1 : 0 ≤ d
                    · have b1 : decide (0 ≤ d) = true := by simpa using e1
                      obtain ⟨f1, f2⟩ := F.out e1
                      have b2 : decide (e < 0) = false := by simpa using f1
                      have b3 : decide (d < e) = false := by simpa using f2
                      clear f1 f2 F e1
                      go_wp2
                      go_quiet (fail)
                      go_wp2
                      go_roundw
                      case rel => exact ⟨q + 1, by omega, by go_num, (by repeat' (first | exact Bl.refl _ | with_reducible assumption | with_reducible refine Bl.drew_ ?_ | with_reducible refine Bl.drewN_ ?_ _ | with_reducible refine Bl.alloc_ ?_ _ | with_reducible refine Bl.trans_ ?_ (by assumption) | with_reducible refine Bl.trans_ ?_ (And.left (by assumption))))⟩
                      case measure => simp [intOf]; omega
                    · have b1 : decide (0 ≤ d) = false := by simpa using e1
                      clear F e1
                      go_wp2
                      go_quiet (fail)
                      go_wp2
                      go_roundw
                      case rel => exact ⟨q + 1, by omega, by go_num, (by repeat' (first | exact Bl.refl _ | with_reducible assumption | with_reducible refine Bl.drew_ ?_ | with_reducible refine Bl.drewN_ ?_ _ | with_reducible refine Bl.alloc_ ?_ _ | with_reducible refine Bl.trans_ ?_ (by assumption) | with_reducible refine Bl.trans_ ?_ (And.left (by assumption))))⟩
                      case measure => simp [intOf]; omega
                  · obtain rfl : q = z := by omega
                    go_wp2
                    go_roundw
                    case rel => exact ⟨j + 1, by omega, by go_num, hgb⟩
                    case measure => simp [intOf]; omega
              · obtain rfl : j = z := by omega
                go_wp2
                go_ret
                exact ⟨rfl, BF.out _ hbl⟩
        · have c0 : decide (0 < o) = false := by simpa using o0
          go_wp2_with fail
          clear q0 q1 q2 q3
          go_loopw [13] (fun i wr => ∃ j : Nat, j ≤ z ∧ i = .int .i64 j ∧ Bl w7 wr) (fun i _ => z - (intOf i).toNat)
          case atStart => exact ⟨0, by omega, rfl, Bl.refl _⟩
          case round =>
            obtain ⟨j, hj, rfl, hbl⟩ := hrel
            obtain ⟨⟨q0, q1⟩, q2, q3⟩ := BX.out _ hbl
            by_cases hlt : j < z
            · have i1 : (j : Int) < (z : Int) := by omega
              obtain ⟨⟨d1, d2⟩, d3, d4⟩ := DL.out j ⟨by omega, i1⟩
              have FAR := Lib.hid (fun (t : Int) ht => LIGHT.out j ⟨by omega, i1⟩ (by omega) (.inl (by omega)) t ht)
              go_wp2_with fail
              refine (implDistFrom_any z j A' l c' L HL.out hlc _ (by omega) (BG.out _ hbl).1).mono ?_
              rintro e w8 ⟨v8, rfl, hv8, hb8⟩
              rw [d1] at hv8
              obtain ⟨A8, c8, rfl, -, hi8, -, -⟩ := OwnN.shape hv8
              rw [d2]
              have I8 := Lib.hid hi8
              have B8 := Lib.hid (hbl.trans_ hb8)
              clear hv8 hi8 hb8 q0 q1 q2 q3
              obtain ⟨⟨q0, q1⟩, q2, q3⟩ := BX.out _ B8.out
              go_wp2_with fail
              refine (implDistFrom_any z j A2 k c2 M HK.out hc2 _ (by omega) (BG.out _ B8.out).2).mono ?_
              rintro e w9 ⟨v9, rfl, hv9, hb9⟩
              rw [d3] at hv9
              obtain ⟨A9, c9, rfl, -, hi9, -, -⟩ := OwnN.shape hv9
              rw [d4]
              have I9 := Lib.hid hi9
              have B9 := Lib.hid (B8.out.trans_ hb9)
              have J8 := Lib.hid (I8.out.bl hb9)
              have EL1 := Lib.hid d2
              have EL2 := Lib.hid d4
              clear hv9 hi9 hb9 q0 q1 q2 q3 d1 d2 d3 d4
              generalize distL (z : Int) L j = D at *
              generalize distL (z : Int) M j = E at *
              obtain ⟨⟨q0, q1⟩, q2, q3⟩ := BX.out _ B9.out
              have hzz : ((z : Int) != (z : Int)) = false := by simp
              go_wp2_with fail
              clear q0 q1 q2 q3
              go_loopw [17] (fun i wx => ∃ q : Nat, q ≤ z ∧ i = .int .i64 q ∧ Bl w9 wx) (fun i _ => z - (intOf i).toNat)
              case atStart => exact ⟨0, by omega, rfl, Bl.refl _⟩
              case round =>
                clear hbl
                obtain ⟨q, hq, rfl, hbl⟩ := hrel
                have hgb := B9.out.trans_ hbl
                obtain ⟨⟨q0, q1⟩, q2, q3⟩ := BX.out _ hgb
                by_cases hlt2 : q < z
                · have i2 : (q : Int) < (z : Int) := by omega
                  have i3 : (0 : Int) ≤ (q : Int) := by omega
                  have hqD : q < D.length := by rw [EL1.out]; exact hlt2
                  have hqE : q < E.length := by rw [EL2.out]; exact hlt2
                  obtain ⟨g1, o1, rfl, hg1, hc1⟩ := (J8.out.bl hbl).cell (by omega)
                  obtain ⟨g2, o2, rfl, hg2, hc2'⟩ := (I9.out.bl hbl).cell (by omega)
                  have p1 := hc1 q hqD
                  have p2 := hc2' q hqE
                  have F := Lib.hid (FAR.out q ⟨i3, i2⟩)
                  rw [dAt_at hqD, dAt_at hqE] at F
                  clear hc1 hc2'
                  generalize D[q] = d at *
                  generalize E[q] = e at *
                  by_cases e1 : 0 ≤ d
                  · have b1 : decide (0 ≤ d) = true := by simpa using e1
                    obtain ⟨f1, f2⟩ := F.out e1
                    have b2 : decide (e < 0) = false := by simpa using f1
                    have b3 : decide (d < e) = false := by simpa using f2
                    clear f1 f2 F e1
                    go_wp2
                    go_quiet (fail)
                    go_wp2
                    go_roundw
                    case rel => exact ⟨q + 1, by omega, by go_num, (by repeat' (first | exact Bl.refl _ | with_reducible assumption | with_reducible refine Bl.drew_ ?_ | with_reducible refine Bl.drewN_ ?_ _ | with_reducible refine Bl.alloc_ ?_ _ | with_reducible refine Bl.trans_ ?_ (by assumption) | with_reducible refine Bl.trans_ ?_ (And.left (by assumption))))⟩
                    case measure => simp [intOf]; omega
                  · have b1 : decide (0 ≤ d) = false := by simpa using e1
                    clear F e1
                    go_wp2
                    go_quiet (fail)
                    go_wp2
                    go_roundw
                    case rel => exact ⟨q + 1, by omega, by go_num, (by repeat' (first | exact Bl.refl _ | with_reducible assumption | with_reducible refine Bl.drew_ ?_ | with_reducible refine Bl.drewN_ ?_ _ | with_reducible refine Bl.alloc_ ?_ _ | with_reducible refine Bl.trans_ ?_ (by assumption) | with_reducible refine Bl.trans_ ?_ (And.left (by assumption))))⟩
                    case measure => simp [intOf]; omega
                · obtain rfl : q = z := by omega
                  go_wp2
                  go_roundw
                  case rel => exact ⟨j + 1, by omega, by go_num, hgb⟩
                  case measure => simp [intOf]; omega
            · obtain rfl : j = z := by omega
              go_wp2
              go_ret
              exact ⟨rfl, BF.out _ hbl⟩

end Go.Proofs.Ytdbjcojlcddhdaa
