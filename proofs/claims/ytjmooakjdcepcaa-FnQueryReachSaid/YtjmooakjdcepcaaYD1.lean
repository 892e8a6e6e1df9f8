/-
  What is proved here: toInt64S makes new memory that reads as what it is handed; what a slice of numbers that comes in is made of; the laws' small functions on halves; how far all nodes are, as the model reckons it; DistFrom and DistOf of the model; plain facts on lists without two alike, on the nearest of some nodes, and on the first of the greatest; the reaches of a graph, told; words on memory that reads as a list of lists of numbers; the laws' small functions on lists of rows: sizes, copies, comparisons; plain words on the rows of all distances; the small functions of the code and of the model that ask whether numbers are nodes, no two alike; the model's ReachOf. No conditions beyond those that each theorem states.
-/
import Derived.Test.YtjmooakjdcepcaaYA
import Derived.Test.YtjmooakjdcepcaaZ0
import Derived.Test.YtjmooakjdcepcaaX1
import Derived.Deep.LoopGhost
import Derived.IntWalk
import Derived.Outline
import Derived.Test.YtjmooakjdcepcaaNF1
import Derived.Lib.MinMax
set_option linter.unusedSimpArgs false
set_option linter.unusedVariables false
namespace Go.Proofs.Ytjmooakjdcepcaa
open Go.ChangeShapes Go.WideShapes Go.ChangeAt Go.RowKit

/-- The cells of n new numbers. -/
def mk1 (n : Nat) : Array Value := madeCells #[.int .i64 0] (n * 1)
theorem size_mk1 (n : Nat) : (mk1 n).size = n := by unfold mk1; rw [size_madeCells, Nat.mul_one]
theorem mk1_row (w : World) (n : Nat) (t : TypeId) : (w.alloc (.cells (mk1 n) t)).rowIs w.heap.size t n (fun i => (mk1 n).getD i undef) := by
  have h := World.rowIs_alloc w (mk1 n) t (fun i => (mk1 n).getD i undef) (fun i hi => by simp [Array.getD, hi])
  rwa [size_mk1] at h
theorem make_nums (n : Nat) (hn : n ≤ 1048576) (w : World) : (Instr.makeSlice 32 (.int .i64 (n : Int)) (.int .i64 (n : Int))).run Try.prog w = .ok (.slice (some ⟨w.heap.size, 0, none⟩) n n) (w.alloc (.cells (mk1 n) 2)) := make_ints n hn w

-- (toInt64S_any left out)

set_option maxRecDepth 100000 in
theorem open_nums {H : Type} {enc : TypeId × Value → H} {W : World} {r : Reach} {b0 : Nat} {v : Value} {d : DataW H} {p : List MemPlace} (hv : Value.okWide Try.prog W r b0 32 v)
    (h : DataW.Trod enc Try.prog W 0 (fun _ => true) true 32 v d p) :
    ∃ (A : Option Addr) (n c : Nat) (V : List Int), v = .slice A n c ∧ n = V.length ∧ n ≤ 9223372036854775807 ∧ n ≤ c ∧ IntsAt W W.heap.size A V := by
  obtain ⟨a0, len0, cap0, rfl⟩ := okWide_slice Try.underlying32 hv
  obtain ⟨m0, ht1⟩ := h
  rcases open_ints Try.underlying32 Try.underlying2 (by kernel_rfl) ht1 with ⟨hcs, _⟩ | ⟨a, len, cap, zs, hcs, _, hl, hcap, hzs, hmax, hcell, hwf⟩
  · have hcs' : [Value.slice a0 len0 cap0] = [.slice none 0 0] := hcs
    simp only [List.cons.injEq, and_true, Value.slice.injEq] at hcs'
    obtain ⟨rfl, rfl, rfl⟩ := hcs'
    exact ⟨none, 0, 0, [], rfl, rfl, by omega, Nat.le_refl _, CellsAt.nil_ _ _ _⟩
  · have hcs' : [Value.slice a0 len0 cap0] = [.slice (some a) len cap] := hcs
    simp only [List.cons.injEq, and_true, Value.slice.injEq] at hcs'
    obtain ⟨rfl, rfl, rfl⟩ := hcs'
    have hz : len0 ≤ zs.length := by rw [hzs]; simp; omega
    refine ⟨some a, len0, cap0, zs.take len0, rfl, by rw [List.length_take]; omega, by first | omega | (unfold maxLen at *; omega), by omega, fun h0 => ?_⟩
    rw [csI_len, List.length_take] at h0
    obtain ⟨b, off, spot⟩ := a
    have hc0 := hcell 0 (by omega)
    have hspot : spot = none := by simpa [Addr.add] using World.cell?_spot hc0
    subst hspot
    refine ⟨b, off, rfl, ?_, fun j hj => ?_⟩
    · have := World.block_lt_of_cell? _ _ hc0
      simpa [Addr.add] using this
    · rw [csI_len, List.length_take] at hj
      have hc := hcell j (by omega)
      rw [Go.WideShapes.add_plain] at hc
      rw [hc, csI_at, List.getElem_take, List.getD_eq_getElem?_getD, List.getElem?_eq_getElem (by omega)]
      rfl

end Go.Proofs.Ytjmooakjdcepcaa

set_option linter.unusedSimpArgs false
set_option linter.unusedVariables false
namespace Go.Proofs.Ytjmooakjdcepcaa
open Go.ChangeShapes Go.WideShapes Go.ChangeAt Go.RowKit

/-- A new half is left. -/
def HalfMade (n m : Nat) (r : Int) (D E : List Int) (w : World) (e : Ending) (w' : World) : Prop :=
  ∃ g h, e = .returned (.agg #[.slice (some ⟨g, 0, none⟩) n n, .slice (some ⟨h, 0, none⟩) m m, .int .i64 r]) ∧ IntsAt w' w'.heap.size (some ⟨g, 0, none⟩) D ∧ IntsAt w' w'.heap.size (some ⟨h, 0, none⟩) E ∧ Bl w w'

theorem IntsAt.set_ {w : World} {B : Nat} {A : Option Addr} {V : List Int} (h : IntsAt w B A V) {p : Addr} (hp : ∀ g, blockOf A = some g → p.block ≠ g) (v : Value) : IntsAt (w.setCell p v) B A V := fun h0 => by
  obtain ⟨g, off, rfl, hg, hc⟩ := h h0
  exact ⟨g, off, rfl, hg, fun k hk => by rw [World.cell?_setCell_other _ _ _ _ (fun e => hp g rfl (by rw [e]))]; exact hc k hk⟩

/-- Three cells, in a block of their own. -/
def Tri (w : World) (g : Nat) (a b c : Value) : Prop := w.rowIs g 42 3 (fun i => if i = 0 then a else if i = 1 then b else c)
theorem Tri.new (w : World) (a b c : Value) : Tri (w.alloc (.cells #[a, b, c] 42)) w.heap.size a b c :=
  World.rowIs_alloc w #[a, b, c] _ _ (fun i hi => by
    have : i = 0 ∨ i = 1 ∨ i = 2 := by simp at hi; omega
    rcases this with rfl | rfl | rfl <;> simp)
theorem Tri.facts {w : World} {g : Nat} {a b c : Value} (h : Tri w g a b c) : w.cell? ⟨g, 0, none⟩ = some a ∧ w.cell? ⟨g, 1, none⟩ = some b ∧ w.cell? ⟨g, 2, none⟩ = some c ∧ w.frozen? ⟨g, 0, none⟩ = false ∧ w.frozen? ⟨g, 1, none⟩ = false ∧ w.frozen? ⟨g, 2, none⟩ = false :=
  ⟨h.cell (i := 0) (by omega), h.cell (i := 1) (by omega), h.cell (i := 2) (by omega), h.frozen 0, h.frozen 1, h.frozen 2⟩
theorem Tri.bl {w w' : World} {g : Nat} {a b c : Value} (h : Tri w g a b c) (hb : Bl w w') : Tri w' g a b c := row_bl h hb
theorem Tri.far {w : World} {g : Nat} {a b c : Value} (h : Tri w g a b c) {p : Addr} (hp : g ≠ p.block) (u : Value) : Tri (w.setCell p u) g a b c := World.rowIs.setOther h hp u
theorem Tri.set0 {w : World} {g : Nat} {a b c : Value} (h : Tri w g a b c) (u : Value) : Tri (w.setCell ⟨g, 0, none⟩ u) g u b c :=
  (World.rowIs.set h 0 u).congr fun i hi => by
    have : i = 0 ∨ i = 1 ∨ i = 2 := by omega
    rcases this with rfl | rfl | rfl <;> simp
theorem Tri.set1 {w : World} {g : Nat} {a b c : Value} (h : Tri w g a b c) (u : Value) : Tri (w.setCell ⟨g, 1, none⟩ u) g a u c :=
  (World.rowIs.set h 1 u).congr fun i hi => by
    have : i = 0 ∨ i = 1 ∨ i = 2 := by omega
    rcases this with rfl | rfl | rfl <;> simp
theorem Tri.set2 {w : World} {g : Nat} {a b c : Value} (h : Tri w g a b c) (u : Value) : Tri (w.setCell ⟨g, 2, none⟩ u) g a b u :=
  (World.rowIs.set h 2 u).congr fun i hi => by
    have : i = 0 ∨ i = 1 ∨ i = 2 := by omega
    rcases this with rfl | rfl | rfl <;> simp

-- (toHalf_any left out)

-- (eqHalf_yes left out)

-- (szHalf_any left out)

end Go.Proofs.Ytjmooakjdcepcaa

set_option linter.unusedSimpArgs false
set_option linter.unusedVariables false
namespace Go.Proofs.Ytjmooakjdcepcaa
open Go.RowKit

theorem OwnN.snoc {w : World} {B : Nat} {v : Value} {V : List Int} {x : Int} {n : Nat} (hn : n = V.length) (h : w.ownsRow B 2 1 v (n + 1) (csI V ++ [.int .i64 x])) : OwnN w B v (V ++ [x]) := by
  unfold OwnN Owns
  rw [List.length_append, ← hn]
  simpa [csI] using h
/-- What holds where a word is true, and where it is not. -/
def IfT (b : Bool) (P : Prop) : Prop := b = true → P
def IfF (b : Bool) (P : Prop) : Prop := b = false → P
/-- A list of numbers of one's own, in a block. -/
def RowN (w : World) (g c : Nat) (V : List Int) : Prop := OwnN w g (.slice (some ⟨g, 0, none⟩) V.length c) V
theorem RowN.cells {w : World} {g c : Nat} {V : List Int} (h : RowN w g c V) : (∀ o, w.frozen? ⟨g, o, none⟩ = false) ∧ (∀ k (hk : k < V.length), w.cell? ⟨g, k, none⟩ = some (.int .i64 V[k])) := by
  refine ⟨fun o => World.ownsRow.frozenAt h o, fun k hk => ?_⟩
  rw [World.ownsRow.cellAt h k (by omega), List.getElem?_eq_getElem (by rw [csI_len]; exact hk), csI_at]
theorem RowN.bl {w w' : World} {g c : Nat} {V : List Int} (h : RowN w g c V) (hb : Bl w w') : RowN w' g c V := OwnN.bl h hb
theorem RowN.set {w : World} {g c : Nat} {V : List Int} (h : RowN w g c V) (k : Nat) (x : Int) : RowN (w.setCell ⟨g, k, none⟩ (.int .i64 x)) g c (V.set k x) := by
  have h' := (Owns.stored h k (.int .i64 x)).1
  unfold RowN OwnN
  rw [List.length_set]
  have e : csI (V.set k x) = (csI V).set k (.int .i64 x) := by simp [csI, List.map_set]
  rw [e]
  exact h'

theorem OwnN.toRow {w : World} {B : Nat} {v : Value} {V : List Int} (h : OwnN w B v V) (h0 : 0 < V.length) : ∃ g c, v = .slice (some ⟨g, 0, none⟩) V.length c ∧ B ≤ g ∧ g < w.heap.size ∧ RowN w g c V := by
  obtain ⟨A, c, rfl, -, -, -, h3⟩ := Owns.shape h
  obtain ⟨g, rfl, hB, hg, -, -⟩ := h3 h0
  refine ⟨g, c, rfl, hB, hg, h.1, ?_⟩
  rcases h.2 with ⟨e, h1⟩ | ⟨g', cap, cur, e, hB', r⟩
  · simp at e
  · have e' := e
    injection e with e1 e2 e3
    injection e1 with e1
    injection e1 with e1
    exact .inr ⟨g', cap, cur, e', by omega, r⟩
theorem RowN.own {w : World} {g c B : Nat} {V : List Int} (h : RowN w g c V) (hB : B ≤ g) : OwnN w B (.slice (some ⟨g, 0, none⟩) V.length c) V := OwnN.low h hB
theorem RowN.lt {w : World} {g c : Nat} {V : List Int} (h : RowN w g c V) : g < w.heap.size := (Owns.lt_ h g rfl).2

set_option maxRecDepth 100000 in
set_option maxHeartbeats 4000000 in
theorem l3Dist_any (N s : Int) (A : Option Addr) (n c : Nat) (L : List Arc3) (hn : n = L.length) (ho : okB N L = true) (h0 : 0 ≤ s) (h1 : s < N) (w : World) (hm : n ≤ 1048576) (H1 : ArcsAt w w.heap.size A L) :
    Calls Try.prog 72 #[.agg #[.int .i64 N, .slice A n c], .int .i64 s] w (NumsMade (distL N L s) w) := by
  obtain ⟨i0, hi, hz0, hz1, hz2⟩ := info_parts infoInt
  have I0 := Lib.hid hi
  have I1 := Lib.hid hz0
  have I2 := Lib.hid hz1
  have I3 := Lib.hid hz2
  have K1 := Lib.hid H1
  have HN := Lib.hid hn
  have HO := Lib.hid ho
  have hN24 := (okB_elim ho).2.1
  have hL150 := (okB_elim ho).2.2.1
  obtain ⟨m, rfl⟩ : ∃ m : Nat, N = m := ⟨N.toNat, by omega⟩
  obtain ⟨q, rfl⟩ : ∃ q : Nat, s = q := ⟨s.toNat, by omega⟩
  have hm24 : m ≤ 24 := by omega
  have hqm : q < m := by omega
  clear H1 hn hi hz0 hz1 hz2 ho
  go_enter Try.func72, Try.ntmps72
  go_wp2_with fail
  go_loopw [5, 6] (fun v i wr => ∃ k : Nat, k ≤ m ∧ i = .int .i64 k ∧ OwnN wr (w.heap.size + 1) v (List.replicate k (-1)) ∧ Bl (w.alloc (.cells #[.int .i64 (m : Int), .slice A n c] 26)) wr) (fun _ i _ => m - (intOf i).toNat)
  case atStart =>
    refine ⟨0, by omega, rfl, ?_, (by repeat' (first | exact Bl.refl _ | with_reducible assumption | with_reducible refine Bl.drew_ ?_ | with_reducible refine Bl.drewN_ ?_ _ | with_reducible refine Bl.alloc_ ?_ _ | with_reducible refine Bl.trans_ ?_ (by assumption) | with_reducible refine Bl.trans_ ?_ (And.left (by assumption))))⟩
    have h := World.ownsRow_made (base := w.heap.size + 1) (e := 2) (size := 1) (w.alloc (.cells #[.int .i64 (m : Int), .slice A n c] 26)) #[] 0 (by simp) (by unfold maxLen; omega) rfl
    rw [World.size_alloc] at h
    exact h
  case round =>
    obtain ⟨k, hk, rfl, hown, hbl⟩ := hrel
    have hs := hbl.size
    simp only [World.size_alloc] at hs
    obtain ⟨q0, q1⟩ := box2 hbl
    have O := Lib.hid hown
    have HB := Lib.hid hbl
    clear hown hbl
    by_cases hlt : k < m
    · go_wp2_with (at_builtin; refine wpList_append_own _ rfl (.tmp 18) (.tmp 19) _ rfl (w.heap.size + 1) 2 i0 _ 1 8 Try.underlying32 I0.out I1.out I2.out I3.out rfl (by decide) _ (List.replicate k (-1)).length (csI (List.replicate k (-1))) rfl (World.ownsRow.alloc O.out _) ⟨wr.heap.size, 0, none⟩ 1 1 [.int .i64 (-1)] rfl rfl ?c0 (by simp [Value.oneCell']) ?c3 ?c4 ?c5 ?_)
      case c0 => 
        intro j u hj
        match j, hj with
        | 0, hj => simp at hj; subst hj; simp [Addr.add, go_sem]
        | (j + 1), hj => simp at hj
      case c3 => unfold maxLen; simp; omega
      case c4 => simp; omega
      case c5 => simp; omega
      intro v' w1 hown' hgrow _
      have O1 := Lib.hid (OwnN.snoc (V := List.replicate k (-1)) (x := -1) (n := k) (by simp) (by simpa using hown'))
      have hb1 : Bl (w.alloc (.cells #[.int .i64 (m : Int), .slice A n c] 26)) w1 := (HB.out.alloc_ _).grown_ hgrow (fun g hg => by have := (Owns.lt O.out g hg).1; simpa using this)
      have hb1' := Lib.hid hb1
      obtain ⟨q2, q3⟩ := box2 hb1
      clear hown' hgrow q0 q1 hb1
      go_wp2
      go_roundw
      case rel => exact ⟨k + 1, by omega, by go_num, by rw [List.replicate_succ']; exact O1.out, hb1'.out⟩
      case measure => simp [intOf]; omega
    · obtain rfl : k = m := by omega
      obtain ⟨g, c', rfl, hBg, hgl, hrow⟩ := O.out.toRow (by simp; omega)
      have hcl := hrow.cells
      have p0 := hcl.2 q (by simp; exact hqm)
      have p1 := hcl.1 q
      rw [List.getElem_replicate] at p0
      rw [List.length_replicate]
      have hq0 : (0 : Int) ≤ (q : Int) := by omega
      have hq1 : (q : Int) < (k : Int) := by omega
      have R0 := Lib.hid (show RowN (wr.setCell ⟨g, q, none⟩ (.int .i64 0)) g c' (startD k q) from by
        have := hrow.set q 0
        unfold startD
        simpa using this)
      have HB0 := Lib.hid (show Bl (w.alloc (.cells #[.int .i64 (k : Int), .slice A n c] 26)) (wr.setCell ⟨g, q, none⟩ (.int .i64 0)) from HB.out.set_ (by simp; omega) _)
      clear hcl hrow
      go_wp2_with fail
      clear p0 p1 q0 q1
      go_loopg [7] (sumF potF (startD k q) + 1) (fun t mo wr => ∃ (D : List Int) (b : Bool), mo = .bool b ∧ Hid (Rel k L q D) ∧ Hid (RowN wr g c' D) ∧ Hid (Bl (w.alloc (.cells #[.int .i64 (k : Int), .slice A n c] 26)) wr) ∧ IfT b (sumF potF D + 1 ≤ t) ∧ IfF b (IsDist k L q D))
      case atStart => exact ⟨startD k q, true, rfl, Lib.hid (Rel.start_ (by omega) (by omega)), R0, HB0, fun _ => Nat.le_refl _, fun h => nomatch h⟩
      case round =>
        obtain ⟨D, b, rfl, RE, RO, BB, po, di⟩ := hrel
        have PO := Lib.hid po
        have DI := Lib.hid di
        clear po di
        have hDl : D.length = k := by have := RE.out.len; simpa using this
        have HDL := Lib.hid hDl
        clear hDl
        cases b with
        | false =>
          go_wp2_with fail
          go_ret
          have hD := distL_of (arcsIn_of_ok HO.out) (by omega) (by omega) (by omega) (DI.out rfl)
          refine ⟨_, rfl, ?_, (Bl.alloc_ (Bl.refl w) _).trans_ BB.out⟩
          rw [← hD]
          have := RO.out.own (B := w.heap.size) (by omega)
          rw [HDL.out] at this
          exact this
        | true =>
          obtain ⟨q0, q1⟩ := box2 BB.out
          go_wp2_with fail
          clear q0 q1
          go_loopw [7, 8] (fun mo i wr => ∃ (j : Nat) (E : List Int) (b : Bool), j ≤ n ∧ i = .int .i64 j ∧ mo = .bool b ∧ Hid (Rel k L q E) ∧ Hid (RowN wr g c' E) ∧ Hid (Bl (w.alloc (.cells #[.int .i64 (k : Int), .slice A n c] 26)) wr) ∧
            IfT b (sumF potF E < sumF potF D) ∧ IfF b (E = D ∧ ∀ t (h : t < L.length), t < j → nearer D L[t] = false)) (fun _ i _ => n - (intOf i).toNat)
          case atStart => exact ⟨0, D, false, by omega, rfl, rfl, RE, RO, BB, (fun h => nomatch h), fun _ => ⟨rfl, fun t h h' => absurd h' (by omega)⟩⟩
          case round =>
            obtain ⟨j, E, b, hj, rfl, rfl, RE2, RO2, BB2, less, same⟩ := hrel
            have LESS := Lib.hid less
            have SAME := Lib.hid same
            clear less same
            obtain ⟨q0, q1⟩ := box2 BB2.out
            have hEl : E.length = k := by have := RE2.out.len; simpa using this
            have HEL := Lib.hid hEl
            clear hEl
            by_cases hlt : j < n
            · have hjl : j < L.length := by have := HN.out; omega
              have hbw : Bl w wr := (Bl.alloc_ (Bl.refl w) _).trans_ BB2.out
              obtain ⟨g1, o1, rfl, hg1, hc1⟩ := K1.out (by omega)
              obtain ⟨p1, p2, p3⟩ := hc1 j hjl
              rw [← (bcell hbw).1 _ _ hg1] at p1 p2 p3
              obtain ⟨a0, a1, a2, a3, a4, a5⟩ := arcsIn_of_ok HO.out L[j] (List.getElem_mem hjl)
              have AM := Lib.hid (show L[j] ∈ L from List.getElem_mem hjl)
              have hgl2 := RO2.out.lt
              have hg1l : g1 < wr.heap.size := Nat.lt_of_lt_of_le hg1 hbw.size
              clear hc1 hbw
              generalize hAA : L[j] = aa at *
              obtain ⟨x, y, z⟩ := aa
              simp only at a0 a1 a2 a3 a4 a5 p1 p2 p3
              obtain ⟨u, rfl⟩ : ∃ u : Nat, x = u := ⟨x.toNat, by omega⟩
              obtain ⟨v, rfl⟩ : ∃ v : Nat, y = v := ⟨y.toNat, by omega⟩
              have huk : u < k := by omega
              have hvk : v < k := by omega
              obtain ⟨hfz, hcl⟩ := RO2.out.cells
              have c1 := hcl u (by rw [HEL.out]; exact huk)
              have c2 := hcl v (by rw [HEL.out]; exact hvk)
              have f2 := hfz v
              clear hfz hcl
              have e1 : E[u]'(by rw [HEL.out]; exact huk) = dAt E (u : Int) := by simp [dAt, HEL.out, huk]
              have e2 : E[v]'(by rw [HEL.out]; exact hvk) = dAt E (v : Int) := by simp [dAt, HEL.out, hvk]
              rw [e1] at c1
              rw [e2] at c2
              have b1 := RE2.out.bound (by omega) (u : Int)
              have b2 := RE2.out.bound (by omega) (v : Int)
              have b3 := RE2.out.low (u : Int)
              have b4 := RE2.out.low (v : Int)
              have HA := Lib.hid hAA
              clear e1 e2 hAA
              have hstep : nearer E ((u : Int), (v : Int), z) = true → Rel k L q (E.set v (dAt E (u : Int) + z)) ∧ sumF potF (E.set v (dAt E (u : Int) + z)) < sumF potF E := fun h => by
                have := RE2.out.step (arcsIn_of_ok HO.out) (by omega) AM.out h
                simpa using this
              have HST := Lib.hid hstep
              clear hstep
              generalize hdu : dAt E (u : Int) = du at *
              generalize hdv : dAt E (v : Int) = dv at *
              have hnr : nearer E ((u : Int), (v : Int), z) = decide (0 ≤ du ∧ (dv < 0 ∨ du + z < dv)) := by
                unfold nearer
                simp only [hdu, hdv]
              have HNR := Lib.hid hnr
              have no : nearer E ((u : Int), (v : Int), z) = false → IfF b (E = D ∧ ∀ t (h : t < L.length), t < j + 1 → nearer D L[t] = false) := fun hn hb => by
                obtain ⟨e, h⟩ := SAME.out hb
                refine ⟨e, fun t ht htj => ?_⟩
                rcases Nat.lt_or_ge t j with h' | h'
                · exact h t ht h'
                · obtain rfl : t = j := by omega
                  rw [HA.out, ← e]
                  exact hn
              have NO := Lib.hid no
              clear hdu hdv hnr no AM HA
              have i1 : (0 : Int) ≤ (u : Int) := by omega
              have i2 : (u : Int) < (k : Int) := by omega
              have i3 : (0 : Int) ≤ (v : Int) := by omega
              have i4 : (v : Int) < (k : Int) := by omega
              by_cases hdn : du < 0
              · have hnf : nearer E ((u : Int), (v : Int), z) = false := by rw [HNR.out]; simp; omega
                have NF := Lib.hid (NO.out hnf)
                clear hnf
                go_wp2_with fail
                go_roundw
                case rel => exact ⟨j + 1, E, b, by omega, by go_num, rfl, RE2, Lib.hid (RO2.out.bl (by repeat' (first | exact Bl.refl _ | with_reducible assumption | with_reducible refine Bl.drew_ ?_ | with_reducible refine Bl.drewN_ ?_ _ | with_reducible refine Bl.alloc_ ?_ _ | with_reducible refine Bl.trans_ ?_ (by assumption) | with_reducible refine Bl.trans_ ?_ (And.left (by assumption))))), Lib.hid (BB2.out.trans_ (by repeat' (first | exact Bl.refl _ | with_reducible assumption | with_reducible refine Bl.drew_ ?_ | with_reducible refine Bl.drewN_ ?_ _ | with_reducible refine Bl.alloc_ ?_ _ | with_reducible refine Bl.trans_ ?_ (by assumption) | with_reducible refine Bl.trans_ ?_ (And.left (by assumption))))), LESS.out, NF.out⟩
                case measure => simp [intOf]; omega
              · by_cases hnv : dv < 0
                · have hyes : nearer E ((u : Int), (v : Int), z) = true := by rw [HNR.out]; simp; omega
                  obtain ⟨hre, hpo⟩ := HST.out hyes
                  have RE3 := Lib.hid hre
                  have LS3 := Lib.hid (show sumF potF (E.set v (du + z)) < sumF potF D from by
                    cases hb : b with
                    | true => exact Nat.lt_trans hpo (LESS.out hb)
                    | false => rw [← (SAME.out hb).1]; exact hpo)
                  have hw : IntKind.i64.wrap (du + z) = du + z := IntWalk.i64_in _ (by omega)
                  clear hyes hre hpo
                  go_wp2_with fail
                  go_quiet (fail)
                  clear hw
                  go_wp2_with fail
                  go_roundw
                  case rel => exact ⟨j + 1, E.set v (du + z), true, by omega, by go_num, rfl, RE3, Lib.hid (RowN.set (RO2.out.bl (by repeat' (first | exact Bl.refl _ | with_reducible assumption | with_reducible refine Bl.drew_ ?_ | with_reducible refine Bl.drewN_ ?_ _ | with_reducible refine Bl.alloc_ ?_ _ | with_reducible refine Bl.trans_ ?_ (by assumption) | with_reducible refine Bl.trans_ ?_ (And.left (by assumption))))) v _), Lib.hid (Bl.set_ (BB2.out.trans_ (by repeat' (first | exact Bl.refl _ | with_reducible assumption | with_reducible refine Bl.drew_ ?_ | with_reducible refine Bl.drewN_ ?_ _ | with_reducible refine Bl.alloc_ ?_ _ | with_reducible refine Bl.trans_ ?_ (by assumption) | with_reducible refine Bl.trans_ ?_ (And.left (by assumption))))) (by simp; omega) _), (fun _ => LS3.out), fun h => nomatch h⟩
                  case measure => simp [intOf]; omega
                · by_cases hln : du + z < dv
                  · have hyes : nearer E ((u : Int), (v : Int), z) = true := by rw [HNR.out]; simp; omega
                    obtain ⟨hre, hpo⟩ := HST.out hyes
                    have RE3 := Lib.hid hre
                    have LS3 := Lib.hid (show sumF potF (E.set v (du + z)) < sumF potF D from by
                      cases hb : b with
                      | true => exact Nat.lt_trans hpo (LESS.out hb)
                      | false => rw [← (SAME.out hb).1]; exact hpo)
                    have hw : IntKind.i64.wrap (du + z) = du + z := IntWalk.i64_in _ (by omega)
                    clear hyes hre hpo
                    go_wp2_with fail
                    go_quiet (fail)
                    clear hw
                    go_wp2_with fail
                    go_roundw
                    case rel => exact ⟨j + 1, E.set v (du + z), true, by omega, by go_num, rfl, RE3, Lib.hid (RowN.set (RO2.out.bl (by repeat' (first | exact Bl.refl _ | with_reducible assumption | with_reducible refine Bl.drew_ ?_ | with_reducible refine Bl.drewN_ ?_ _ | with_reducible refine Bl.alloc_ ?_ _ | with_reducible refine Bl.trans_ ?_ (by assumption) | with_reducible refine Bl.trans_ ?_ (And.left (by assumption))))) v _), Lib.hid (Bl.set_ (BB2.out.trans_ (by repeat' (first | exact Bl.refl _ | with_reducible assumption | with_reducible refine Bl.drew_ ?_ | with_reducible refine Bl.drewN_ ?_ _ | with_reducible refine Bl.alloc_ ?_ _ | with_reducible refine Bl.trans_ ?_ (by assumption) | with_reducible refine Bl.trans_ ?_ (And.left (by assumption))))) (by simp; omega) _), (fun _ => LS3.out), fun h => nomatch h⟩
                    case measure => simp [intOf]; omega
                  · have hnf : nearer E ((u : Int), (v : Int), z) = false := by rw [HNR.out]; simp; omega
                    have NF := Lib.hid (NO.out hnf)
                    have hw : IntKind.i64.wrap (du + z) = du + z := IntWalk.i64_in _ (by omega)
                    clear hnf
                    go_wp2_with fail
                    go_quiet (fail)
                    clear hw
                    go_wp2_with fail
                    go_roundw
                    case rel => exact ⟨j + 1, E, b, by omega, by go_num, rfl, RE2, Lib.hid (RO2.out.bl (by repeat' (first | exact Bl.refl _ | with_reducible assumption | with_reducible refine Bl.drew_ ?_ | with_reducible refine Bl.drewN_ ?_ _ | with_reducible refine Bl.alloc_ ?_ _ | with_reducible refine Bl.trans_ ?_ (by assumption) | with_reducible refine Bl.trans_ ?_ (And.left (by assumption))))), Lib.hid (BB2.out.trans_ (by repeat' (first | exact Bl.refl _ | with_reducible assumption | with_reducible refine Bl.drew_ ?_ | with_reducible refine Bl.drewN_ ?_ _ | with_reducible refine Bl.alloc_ ?_ _ | with_reducible refine Bl.trans_ ?_ (by assumption) | with_reducible refine Bl.trans_ ?_ (And.left (by assumption))))), LESS.out, NF.out⟩
                    case measure => simp [intOf]; omega
            · go_wp2_with fail
              go_roundg (if b = true then sumF potF E + 1 else 0)
              case rel =>
                refine ⟨E, b, rfl, RE2, RO2, BB2, fun h => by rw [h]; simp, fun h => ?_⟩
                obtain ⟨e, hx⟩ := SAME.out h
                refine RE2.out.done (arcsIn_of_ok HO.out) fun a ha => ?_
                obtain ⟨t, ht, rfl⟩ := List.mem_iff_getElem.1 ha
                rw [e]
                exact hx t ht (by have := HN.out; omega)
              case measure =>
                have := PO.out rfl
                cases hb : b with
                | true => have := LESS.out hb; simp; omega
                | false => simp; omega

end Go.Proofs.Ytjmooakjdcepcaa

set_option linter.unusedSimpArgs false
set_option linter.unusedVariables false
namespace Go.Proofs.Ytjmooakjdcepcaa
open Go.RowKit

theorem nodeB_ok {N v : Int} {L : List Arc3} (ho : okB N L = true) : nodeB N v = decide (0 ≤ v ∧ v < N) := by
  obtain ⟨h1, h2, -⟩ := okB_elim ho
  unfold nodeB inB
  have : wrap64 (N - 1) = N - 1 := by unfold wrap64; omega
  rw [this, Bool.eq_iff_iff]
  simp only [decide_eq_true_eq]
  omega
theorem distFromL_len (N : Int) (L : List Arc3) (s : Int) : (distFromL N L s).length ≤ 1048576 := by
  unfold distFromL
  split
  · obtain ⟨ho, h0, h1⟩ := has1_of ‹_›
    have := (okB_elim ho).2.1
    rw [distL_len ho h0 h1]
    omega
  · simp

-- (specDistFrom_any left out)

-- (specDistOf_any left out)

end Go.Proofs.Ytjmooakjdcepcaa

set_option linter.unusedSimpArgs false
set_option linter.unusedVariables false
namespace Go.Proofs.Ytjmooakjdcepcaa

/-- Are all of these nodes of N, no two alike? -/
def unB (N : Int) (V : List Int) : Bool := decide ((∀ v ∈ V, 0 ≤ v ∧ v < N) ∧ V.Nodup)
/-- Is the graph right, are all of these nodes of it, and no two alike? -/
def hasUB (N : Int) (L : List Arc3) (V : List Int) : Bool := okB N L && unB N V
theorem hasB_iff {N : Int} {L : List Arc3} {V : List Int} : hasB N L V = true ↔ okB N L = true ∧ ∀ v ∈ V, 0 ≤ v ∧ v < N := by
  unfold hasB
  rw [Bool.and_eq_true, List.all_eq_true]
  simp
theorem hasUB_no {N : Int} {L : List Arc3} {V : List Int} (h : hasB N L V = false) : hasUB N L V = false := by
  unfold hasUB unB
  rcases Bool.eq_false_or_eq_true (okB N L) with ho | ho
  · rw [ho, Bool.true_and, decide_eq_false_iff_not]
    intro hx
    have := hasB_iff.2 ⟨ho, hx.1⟩
    rw [this] at h
    exact absurd h (by simp)
  · rw [ho]; rfl
theorem hasUB_yes {N : Int} {L : List Arc3} {V : List Int} (h : hasB N L V = true) : hasUB N L V = decide V.Nodup := by
  obtain ⟨h1, h2⟩ := hasB_iff.1 h
  unfold hasUB unB
  rw [h1, Bool.true_and]
  by_cases hn : V.Nodup
  · rw [decide_eq_true hn]; exact decide_eq_true ⟨h2, hn⟩
  · rw [decide_eq_false hn]; exact decide_eq_false fun hx => hn hx.2
theorem hasUB_iff {N : Int} {L : List Arc3} {V : List Int} : hasUB N L V = true ↔ okB N L = true ∧ (∀ v ∈ V, 0 ≤ v ∧ v < N) ∧ V.Nodup := by
  unfold hasUB unB
  rw [Bool.and_eq_true, decide_eq_true_eq]

/-- Numbers as items. -/
def itV (V : List Int) : List It := V.map fun v => (0, v)
theorem told_itV {V : List Int} {v : Int} : toldB (itV V) v = decide (v ∈ V) := by
  rw [Bool.eq_iff_iff, toldB_iff, decide_eq_true_eq]
  constructor
  · rintro ⟨y, hy, rfl⟩
    obtain ⟨u, hu, rfl⟩ := List.mem_map.1 hy
    exact hu
  · intro h
    exact ⟨(0, v), List.mem_map.2 ⟨v, h, rfl⟩, rfl⟩
theorem itV_snoc (V : List Int) (v : Int) : itV (V ++ [v]) = itV V ++ [(0, v)] := by simp [itV]
theorem take_snocI {V : List Int} {j : Nat} (h : j < V.length) : V.take (j + 1) = V.take j ++ [V[j]] := by
  rw [List.take_succ_eq_append_getElem h]
theorem nodup_step {V : List Int} {j : Nat} (h : j < V.length) (hn : (V.take j).Nodup) (hv : V[j] ∉ V.take j) : (V.take (j + 1)).Nodup := by
  rw [take_snocI h, List.nodup_append]
  refine ⟨hn, by simp, fun a ha b hb => ?_⟩
  have : b = V[j] := by simpa using hb
  subst this
  intro e
  subst e
  exact hv ha
theorem nodup_hurt {V : List Int} {j : Nat} (h : j < V.length) (hv : V[j] ∈ V.take j) : ¬ V.Nodup := by
  intro hn
  obtain ⟨i, hi, e⟩ := List.mem_iff_getElem.1 hv
  rw [List.length_take] at hi
  rw [List.getElem_take] at e
  have := (List.nodup_iff_pairwise_ne.1 hn)
  exact (List.pairwise_iff_getElem.1 this) i j (by omega) h (by omega) e

/-- The lesser of a number and a distance that is there. -/
def minD (m d : Int) : Int := if 0 ≤ d then min m d else m
theorem minD_no {m d : Int} (h : d < 0) : minD m d = m := if_neg (by omega)
theorem minD_yes {m d : Int} (h : 0 ≤ d) : minD m d = min m d := if_pos h
/-- How far a node is from the nearest of some. -/
def nearV (N : Int) (L : List Arc3) (v : Int) (V : List Int) : Int := V.foldl (fun m s => minD m (dAt (distL N L s) v)) 24000
theorem nearV_nil (N : Int) (L : List Arc3) (v : Int) : nearV N L v [] = 24000 := rfl
theorem nearV_snoc (N : Int) (L : List Arc3) (v : Int) (V : List Int) (s : Int) : nearV N L v (V ++ [s]) = minD (nearV N L v V) (dAt (distL N L s) v) := by
  simp [nearV, List.foldl_append]
theorem nearV_step (N : Int) (L : List Arc3) (v : Int) {V : List Int} {j : Nat} (h : j < V.length) : nearV N L v (V.take (j + 1)) = minD (nearV N L v (V.take j)) (dAt (distL N L V[j]) v) := by
  rw [take_snocI h, nearV_snoc]
theorem nearV_bounds (N : Int) (L : List Arc3) (v : Int) (V : List Int) : 0 ≤ nearV N L v V ∧ nearV N L v V ≤ 24000 := by
  unfold nearV
  have h : ∀ (V : List Int) (m : Int), 0 ≤ m ∧ m ≤ 24000 → 0 ≤ V.foldl (fun m s => minD m (dAt (distL N L s) v)) m ∧ V.foldl (fun m s => minD m (dAt (distL N L s) v)) m ≤ 24000 := by
    intro V
    induction V with
    | nil => intro m hm; exact hm
    | cons a t ih =>
      intro m hm
      refine ih _ ?_
      show 0 ≤ minD m (dAt (distL N L a) v) ∧ minD m (dAt (distL N L a) v) ≤ 24000
      unfold minD
      split <;> omega
  exact h V 24000 (by omega)

/-- The array of the nearest behind some nodes that are told. -/
def minE (E : List Int) (Y : List It) : List Int := (List.range 24).map fun (i : Nat) => minD (E.getD i 0) (keyOf Y (i : Int))
theorem minE_len (E : List Int) (Y : List It) : (minE E Y).length = 24 := by simp [minE]
theorem minE_at {E : List Int} {Y : List It} {u : Nat} (h : u < (minE E Y).length) : (minE E Y)[u] = minD (E.getD u 0) (keyOf Y (u : Int)) := by simp [minE]
theorem minE_nil {E : List Int} (h : E.length = 24) : minE E [] = E := by
  refine List.ext_getElem (by rw [minE_len, h]) fun i h1 h2 => ?_
  rw [minE_at h1, minD_no (by rw [keyOf_no (by simp)]; omega)]
  simp [h2]
theorem minE_snoc {E : List Int} {Y : List It} {x : Int} {u : Nat} (hx : toldB Y (u : Int) = false) (h0 : 0 ≤ x) (hu : u < (minE E Y).length) : minE E (Y ++ [(x, (u : Int))]) = (minE E Y).set u (min (minE E Y)[u] x) := by
  refine List.ext_getElem (by simp [minE_len]) fun i h1 h2 => ?_
  rw [minE_at h1, List.getElem_set, keyOf_snoc (x := (x, (u : Int))) hx]
  by_cases e : u = i
  · subst e
    rw [if_pos rfl, if_pos rfl, minD_yes h0]
    congr 1
    rw [minE_at hu, minD_no (by rw [keyOf_no (toldB_no.1 hx)]; omega)]
  · rw [if_neg e, if_neg (by simp; omega), minE_at (by rw [minE_len] at h1 ⊢; exact h1)]
theorem minE_done {N : Int} {L : List Arc3} {s : Int} {V : List Int} {E : List Int} {Y : List It} (ho : okB N L = true) (hY : AllNear N L s Y)
    (hE : ∀ v : Nat, (v : Int) < N → E.getD v 0 = nearV N L (v : Int) V) : ∀ v : Nat, (v : Int) < N → (minE E Y).getD v 0 = nearV N L (v : Int) (V ++ [s]) := by
  intro v hv
  have hN := (okB_elim ho).2.1
  have hl : v < (minE E Y).length := by rw [minE_len]; omega
  have e : (minE E Y).getD v 0 = (minE E Y)[v] := by simp [hl]
  rw [e, minE_at hl, nearV_snoc, hE v hv]
  congr 1
  rw [← hY.keys (arcsIn_of_ok ho) hN, keysL_at (by omega) (by omega)]

/-- The first place of the greatest among the first k. -/
def topK (f : Nat → Int) : Nat → Nat
  | 0 => 0
  | k + 1 => if f (topK f k) < f k then k else topK f k
theorem topK_lt (f : Nat → Int) : ∀ k, 0 < k → topK f k < k
  | 0, h => absurd h (by omega)
  | k + 1, _ => by
    unfold topK
    split
    · omega
    · rcases Nat.eq_zero_or_pos k with rfl | hk
      · exact Nat.zero_lt_one
      · have := topK_lt f k hk; omega
theorem topK_le (f : Nat → Int) (k : Nat) : topK f k ≤ k := by
  rcases Nat.eq_zero_or_pos k with rfl | hk
  · exact Nat.le_refl _
  · exact Nat.le_of_lt (topK_lt f k hk)
theorem topK_yes {f : Nat → Int} {k : Nat} (h : f (topK f k) < f k) : topK f (k + 1) = k := if_pos h
theorem topK_no {f : Nat → Int} {k : Nat} (h : ¬ f (topK f k) < f k) : topK f (k + 1) = topK f k := if_neg h
theorem topK_max (f : Nat → Int) : ∀ k j, j < k → f j ≤ f (topK f k) ∧ (f j = f (topK f k) → topK f k ≤ j)
  | 0, j, h => absurd h (by omega)
  | k + 1, j, h => by
    by_cases hx : f (topK f k) < f k
    · rw [topK_yes hx]
      rcases Nat.lt_or_ge j k with hj | hj
      · have := (topK_max f k j hj).1
        exact ⟨by omega, fun e => by omega⟩
      · obtain rfl : j = k := by omega
        exact ⟨Int.le_refl _, fun _ => Nat.le_refl _⟩
    · rw [topK_no hx]
      rcases Nat.lt_or_ge j k with hj | hj
      · exact topK_max f k j hj
      · obtain rfl : j = k := by omega
        exact ⟨by omega, fun _ => topK_le f j⟩

/-- How far each node is from the nearest of V. -/
def nearF (N : Int) (L : List Arc3) (V : List Int) (k : Nat) : Int := nearV N L (k : Int) V
/-- The first node that is farthest from the nearest of V. -/
def farI (N : Int) (L : List Arc3) (V : List Int) : Int := if hasUB N L V = true then ((topK (nearF N L V) N.toNat : Nat) : Int) else -1

end Go.Proofs.Ytjmooakjdcepcaa

set_option linter.unusedSimpArgs false
set_option linter.unusedVariables false
namespace Go.Proofs.Ytjmooakjdcepcaa

/-- The reaches of a right graph; none of another one. -/
def reachL (N : Int) (L : List Arc3) : List Int := if okB N L = true then reachS N.toNat (allS N L N.toNat) else []
theorem reachL_len (N : Int) (L : List Arc3) : (reachL N L).length ≤ 1048576 := by
  unfold reachL
  split
  · rename_i h
    have := (okB_elim h).2.1
    rw [reachS_len]
    omega
  · simp

end Go.Proofs.Ytjmooakjdcepcaa

set_option linter.unusedSimpArgs false
set_option linter.unusedVariables false
namespace Go.Proofs.Ytjmooakjdcepcaa
open Go.RowKit

/-- From A on slices lie one behind the other, and each reads as its list of numbers; all of them lie in blocks from b on, below B. -/
def RowsAt (w : World) (b B : Nat) (A : Option Addr) (R : List (List Int)) : Prop :=
  0 < R.length → ∃ g off, A = some ⟨g, off, none⟩ ∧ (b ≤ g ∧ g < B) ∧ ∀ j (h : j < R.length), ∃ A' c', w.cell? ⟨g, off + j, none⟩ = some (.slice A' R[j].length c') ∧ IntsAt w B A' R[j] ∧ ∀ g', blockOf A' = some g' → 0 < R[j].length → b ≤ g'
theorem RowsAt.keep {w w' : World} {b B : Nat} {A : Option Addr} {R : List (List Int)} (h : RowsAt w b B A R) (hk : ∀ k o, b ≤ k → k < B → w'.cell? ⟨k, o, none⟩ = w.cell? ⟨k, o, none⟩) : RowsAt w' b B A R := fun h0 => by
  obtain ⟨g, off, e, hg, hc⟩ := h h0
  refine ⟨g, off, e, hg, fun j hj => ?_⟩
  obtain ⟨A', c', h1, h2, h3⟩ := hc j hj
  refine ⟨A', c', by rw [hk _ _ hg.1 hg.2]; exact h1, fun hp => ?_, h3⟩
  obtain ⟨g', off', rfl, hg', hc'⟩ := h2 hp
  exact ⟨g', off', rfl, hg', fun i hi => by rw [hk _ _ (h3 g' rfl (by rw [csI_len] at hp; exact hp)) hg']; exact hc' i hi⟩
theorem RowsAt.more {w : World} {b B B' : Nat} {A : Option Addr} {R : List (List Int)} (h : RowsAt w b B A R) (hB : B ≤ B') : RowsAt w b B' A R := fun h0 => by
  obtain ⟨g, off, e, hg, hc⟩ := h h0
  refine ⟨g, off, e, ⟨hg.1, by omega⟩, fun j hj => ?_⟩
  obtain ⟨A', c', h1, h2, h3⟩ := hc j hj
  exact ⟨A', c', h1, h2.more hB, h3⟩
theorem RowsAt.low {w : World} {b b' B : Nat} {A : Option Addr} {R : List (List Int)} (h : RowsAt w b B A R) (hb : b' ≤ b) : RowsAt w b' B A R := fun h0 => by
  obtain ⟨g, off, e, hg, hc⟩ := h h0
  refine ⟨g, off, e, ⟨by omega, hg.2⟩, fun j hj => ?_⟩
  obtain ⟨A', c', h1, h2, h3⟩ := hc j hj
  exact ⟨A', c', h1, h2, fun g' e' hp => Nat.le_trans hb (h3 g' e' hp)⟩
theorem RowsAt.bl {w w' : World} {b : Nat} {A : Option Addr} {R : List (List Int)} (h : RowsAt w b w.heap.size A R) (hb : Bl w w') : RowsAt w' b w'.heap.size A R :=
  (h.keep fun k o _ hk => (bcell hb).1 k o hk).more hb.size
theorem RowsAt.bl' {w w' : World} {b B : Nat} {A : Option Addr} {R : List (List Int)} (h : RowsAt w b B A R) (hB : B ≤ w.heap.size) (hb : Bl w w') : RowsAt w' b B A R :=
  h.keep fun k o _ hk => (bcell hb).1 k o (by omega)
theorem RowsAt.nil_ (w : World) (b B : Nat) (A : Option Addr) : RowsAt w b B A [] := fun h => absurd h (by simp)
theorem RowsAt.turn {w w' : World} {b B : Nat} {A : Option Addr} {R : List (List Int)} {S : Nat → Prop} (h : RowsAt w b B A R) (hB : B ≤ w.heap.size) (k : Turn S w w') (hS : ∀ g, b ≤ g → g < B → ¬ S g) : RowsAt w' b B A R :=
  h.keep fun g o h1 h2 => k.cell (by omega) (hS g h1 h2) o
/-- One of the rows. -/
theorem RowsAt.row {w : World} {b B : Nat} {A : Option Addr} {R : List (List Int)} (h : RowsAt w b B A R) {j : Nat} (hj : j < R.length) :
    ∃ g off A' c', A = some ⟨g, off, none⟩ ∧ g < B ∧ w.cell? ⟨g, off + j, none⟩ = some (.slice A' R[j].length c') ∧ IntsAt w B A' R[j] := by
  obtain ⟨g, off, e, hg, hc⟩ := h (by omega)
  obtain ⟨A', c', h1, h2, -⟩ := hc j hj
  exact ⟨g, off, A', c', e, hg.2, h1, h2⟩

end Go.Proofs.Ytjmooakjdcepcaa

set_option linter.unusedSimpArgs false
set_option linter.unusedVariables false
namespace Go.Proofs.Ytjmooakjdcepcaa
open Go.RowKit

/-- How many numbers there are in all rows. -/
def sumL : List (List Int) → Nat
  | [] => 0
  | r :: R => r.length + sumL R
theorem sumL_snoc (R : List (List Int)) (r : List Int) : sumL (R ++ [r]) = sumL R + r.length := by
  induction R with
  | nil => simp [sumL]
  | cons a t ih => simp only [List.cons_append, sumL, ih]; omega
theorem sumL_take {R : List (List Int)} {j : Nat} (h : j < R.length) : sumL (R.take (j + 1)) = sumL (R.take j) + R[j].length := by
  rw [List.take_succ_eq_append_getElem h, sumL_snoc]
theorem sumL_le {R : List (List Int)} {r : List Int} (h : r ∈ R) : r.length ≤ sumL R := by
  induction R with
  | nil => simp at h
  | cons a t ih =>
    unfold sumL
    rcases List.mem_cons.1 h with rfl | h
    · omega
    · have := ih h; omega

/-- What is left of l behind s, or -1. -/
def SzPost (l : Int) (s : Nat) (w : World) (e : Ending) (w' : World) : Prop := ∃ x : Int, e = .returned (.int .i64 x) ∧ (x = -1 ∨ (0 ≤ x ∧ x = l - (s : Nat))) ∧ Bl w w'

-- (szRow_any left out)

-- (szRowS_any left out)

-- (toRow_any left out)

theorem infoRow : (Try.prog.info? 117).map (fun i => (i.zero, i.size, i.bytes)) = some (some (.agg #[.slice none 0 0]), 1, 24) := by kernel_rfl
def mkR (n : Nat) : Array Value := madeCells (Value.agg #[.slice none 0 0]).cells (n * 1)
theorem size_mkR (n : Nat) : (mkR n).size = n := by unfold mkR; rw [size_madeCells, Nat.mul_one]
theorem mkR_row (w : World) (n : Nat) (t : TypeId) : (w.alloc (.cells (mkR n) t)).rowIs w.heap.size t n (fun i => (mkR n).getD i undef) := by
  have h := World.rowIs_alloc w (mkR n) t (fun i => (mkR n).getD i undef) (fun i hi => by simp [Array.getD, hi])
  rwa [size_mkR] at h
theorem make_rows (n : Nat) (hn : n ≤ 1048576) (w : World) : (Instr.makeSlice 115 (.int .i64 (n : Int)) (.int .i64 (n : Int))).run Try.prog w = .ok (.slice (some ⟨w.heap.size, 0, none⟩) n n) (w.alloc (.cells (mkR n) 117)) := by
  obtain ⟨i0, hi, hz0, hz1, hz2⟩ := info_parts infoRow
  have h := run_make_rowN (P := Try.prog) 115 117 i0 _ Try.underlying115 hi hz0 .i64 .i64 n n (Nat.le_refl _) (by rw [hz2]; omega) (by omega) w
  rw [hz1] at h
  exact h

-- (toRowS_any left out)

-- (eqRow_yes left out)

-- (eqRowS_yes left out)

end Go.Proofs.Ytjmooakjdcepcaa

set_option linter.unusedSimpArgs false
set_option linter.unusedVariables false
namespace Go.Proofs.Ytjmooakjdcepcaa
open Go.RowKit

/-- The rows of all distances. -/
def rowsK (q : Nat) (L : List Arc3) (k : Nat) : List (List Int) := (List.range k).map fun (j : Nat) => distL q L (j : Int)
theorem rowsK_len (q : Nat) (L : List Arc3) (k : Nat) : (rowsK q L k).length = k := by simp [rowsK]
theorem rowsK_at {q : Nat} {L : List Arc3} {k j : Nat} (h : j < (rowsK q L k).length) : (rowsK q L k)[j] = distL q L (j : Int) := by simp [rowsK]
theorem rowsK_succ (q : Nat) (L : List Arc3) (k : Nat) : rowsK q L (k + 1) = rowsK q L k ++ [distL q L (k : Int)] := by simp [rowsK, List.range_succ]

end Go.Proofs.Ytjmooakjdcepcaa

set_option linter.unusedSimpArgs false
set_option linter.unusedVariables false
namespace Go.Proofs.Ytjmooakjdcepcaa
open Go.RowKit

-- (hasUnlike_any left out)

-- (l1Has_any left out)

-- (l6Nodes_any left out)

end Go.Proofs.Ytjmooakjdcepcaa

set_option linter.unusedSimpArgs false
set_option linter.unusedVariables false
namespace Go.Proofs.Ytjmooakjdcepcaa
open Go.RowKit

/-- What a double loop has seen of the shortest paths by way of a node. -/
def seenST (N : Int) (L : List Arc3) (v : Int) (q s t : Nat) (x : Int) : Prop :=
  ∃ s' t' : Nat, s' < q ∧ t' < q ∧ (s' < s ∨ (s' = s ∧ t' < t)) ∧ 0 ≤ dAt (distL N L s') v ∧ 0 ≤ dAt (distL N L v) t' ∧ dAt (distL N L s') v + dAt (distL N L v) t' = dAt (distL N L s') t' ∧ x = min (dAt (distL N L s') v) (dAt (distL N L v) t')
section
variable {N : Int} {L : List Arc3} {v : Int} {q s t : Nat} {m : Int}
theorem seen_start : IsMax (seenST N L v q 0 0) 0 := ⟨.inl rfl, by omega, by
  rintro x ⟨s', t', h1, h2, h3, -⟩
  omega⟩
theorem seen_row (h : IsMax (seenST N L v q s q) m) : IsMax (seenST N L v q (s + 1) 0) m := h.of fun x => by
  constructor
  · rintro ⟨s', t', h1, h2, h3, h4⟩
    exact ⟨s', t', h1, h2, by omega, h4⟩
  · rintro ⟨s', t', h1, h2, h3, h4⟩
    exact ⟨s', t', h1, h2, by omega, h4⟩
theorem seen_on (hs : s < q) (ht : t < q) {a b c : Int} (ha : dAt (distL N L s) v = a) (hb : dAt (distL N L v) t = b) (hc : dAt (distL N L s) t = c) (h1 : 0 ≤ a) (h2 : 0 ≤ b) (h3 : a + b = c) (h : IsMax (seenST N L v q s t) m) : IsMax (seenST N L v q s (t + 1)) (max m (min a b)) := by
  obtain ⟨k1, k2, k3⟩ := h
  subst ha hb hc
  refine ⟨?_, by omega, ?_⟩
  · rcases Int.le_total m (min (dAt (distL N L s) v) (dAt (distL N L v) t)) with hle | hle
    · rw [Int.max_eq_right hle]
      exact .inr ⟨s, t, hs, ht, by omega, h1, h2, h3, rfl⟩
    · rw [Int.max_eq_left hle]
      rcases k1 with k1 | ⟨s', t', a1, a2, a3, a4⟩
      · exact .inl k1
      · exact .inr ⟨s', t', a1, a2, by omega, a4⟩
  · rintro x ⟨s', t', a1, a2, a3, a4, a5, a6, rfl⟩
    by_cases e : s' = s ∧ t' = t
    · obtain ⟨rfl, rfl⟩ := e
      omega
    · have := k3 _ ⟨s', t', a1, a2, by omega, a4, a5, a6, rfl⟩
      omega
theorem seen_off {a b c : Int} (ha : dAt (distL N L s) v = a) (hb : dAt (distL N L v) t = b) (hc : dAt (distL N L s) t = c) (hn : ¬ (0 ≤ a ∧ 0 ≤ b ∧ a + b = c)) (h : IsMax (seenST N L v q s t) m) : IsMax (seenST N L v q s (t + 1)) m := by
  subst ha hb hc
  refine h.of fun x => ?_
  constructor
  · rintro ⟨s', t', a1, a2, a3, a4⟩
    exact ⟨s', t', a1, a2, by omega, a4⟩
  · rintro ⟨s', t', a1, a2, a3, a4, a5, a6, a7⟩
    by_cases e : s' = s ∧ t' = t
    · obtain ⟨rfl, rfl⟩ := e
      exact absurd ⟨a4, a5, a6⟩ hn
    · exact ⟨s', t', a1, a2, by omega, a4, a5, a6, a7⟩
end
theorem seen_all {q v : Nat} {L : List Arc3} {m : Int} (ho : okB q L = true) (hv : v < q) (h : IsMax (seenST q L (v : Int) q q 0) m) : m = (reachS q (allS q L q)).getD v 0 := by
  have h1 := reach_max ho (v := v) (by omega)
  simp only [Int.toNat_natCast] at h1
  refine (h.of fun x => ?_).uniq h1
  constructor
  · rintro ⟨s', t', a1, a2, a3, a4⟩
    exact ⟨s', t', by simpa using a1, by simpa using a2, a4⟩
  · rintro ⟨s', t', a1, a2, a4⟩
    simp only [Int.toNat_natCast] at a1 a2
    exact ⟨s', t', a1, a2, .inl a1, a4⟩

/-- A list of rows of numbers that grows. -/
def RowsOf (w : World) (B : Nat) (pv : Value) (R : List (List Int)) : Prop :=
  ∃ C : List Value, Owns 117 1 w B pv R.length C ∧ ∀ j (h : j < R.length), ∃ A' c', C[j]? = some (.slice A' R[j].length c') ∧ IntsAt w w.heap.size A' R[j] ∧ ∀ g, blockOf A' = some g → g < w.heap.size ∧ pv.ownBlock ≠ some g
theorem RowsOf.bl {w w' : World} {B : Nat} {pv : Value} {R : List (List Int)} (h : RowsOf w B pv R) (b : Bl w w') : RowsOf w' B pv R := by
  obtain ⟨C, h1, h2⟩ := h
  refine ⟨C, h1.bl b, fun j hj => ?_⟩
  obtain ⟨A', c', a1, a2, a3⟩ := h2 j hj
  exact ⟨A', c', a1, a2.bl b, fun g hg => ⟨Nat.lt_of_lt_of_le (a3 g hg).1 b.size, (a3 g hg).2⟩⟩
theorem RowsOf.snoc {w w' : World} {B k : Nat} {pv pv' : Value} {R : List (List Int)} {r : List Int} {C : List Value} {A : Option Addr} {l c : Nat}
    (hC : ∀ j (h : j < R.length), ∃ A' c', C[j]? = some (.slice A' R[j].length c') ∧ IntsAt w w.heap.size A' R[j] ∧ ∀ g, blockOf A' = some g → g < w.heap.size ∧ pv.ownBlock ≠ some g)
    (hl : C.length = R.length) (hr : IntsAt w w.heap.size A r) (hne : ∀ g, blockOf A = some g → g < w.heap.size ∧ pv.ownBlock ≠ some g) (hk : k = R.length) (hrl : l = r.length)
    (hown : w'.ownsRow B 117 1 pv' (k + 1) (C ++ [.slice A l c])) (hg : w.grownBy w' pv.ownBlock) (hb : pv'.ownBlock = pv.ownBlock ∨ pv'.ownBlock = some w.heap.size) : RowsOf w' B pv' (R ++ [r]) := by
  subst hk hrl
  refine ⟨C ++ [.slice A r.length c], by rw [List.length_append]; exact hown, fun j hj => ?_⟩
  have keep : ∀ (A' : Option Addr) (V : List Int), IntsAt w w.heap.size A' V → (∀ g, blockOf A' = some g → g < w.heap.size ∧ pv.ownBlock ≠ some g) → IntsAt w' w'.heap.size A' V ∧ ∀ g, blockOf A' = some g → g < w'.heap.size ∧ pv'.ownBlock ≠ some g := fun A' V h1 h2 => by
    refine ⟨(h1.grown_ (Nat.le_refl _) hg (fun g e _ h => (h2 g e).2 h.symm)).more hg.size, fun g e => ⟨Nat.lt_of_lt_of_le (h2 g e).1 hg.size, fun h => ?_⟩⟩
    rcases hb with hb | hb
    · exact (h2 g e).2 (hb.symm.trans h)
    · have h3 := hb.symm.trans h
      have := (h2 g e).1
      injection h3 with h3
      omega
  by_cases e : j < R.length
  · obtain ⟨A', c', a1, a2, a3⟩ := hC j e
    obtain ⟨k1, k2⟩ := keep A' _ a2 a3
    have e1 : (R ++ [r])[j]'hj = R[j] := List.getElem_append_left e
    rw [e1]
    exact ⟨A', c', by rw [List.getElem?_append_left (by omega)]; exact a1, k1, k2⟩
  · have e0 : j = R.length := by simp at hj; omega
    subst e0
    obtain ⟨k1, k2⟩ := keep A _ hr hne
    have e1 : (R ++ [r])[R.length]'hj = r := by simp
    rw [e1]
    exact ⟨A, c, by rw [List.getElem?_append_right (by omega), hl]; simp, k1, k2⟩
theorem RowsOf.row {w : World} {B : Nat} {pv : Value} {R : List (List Int)} (h : RowsOf w B pv R) (hp : 0 < R.length) :
    ∃ g c, pv = .slice (some ⟨g, 0, none⟩) R.length c ∧ g < w.heap.size ∧ ∀ j (hj : j < R.length), ∃ A' c', w.cell? ⟨g, j, none⟩ = some (.slice A' R[j].length c') ∧ IntsAt w w.heap.size A' R[j] := by
  obtain ⟨C, h1, h2⟩ := h
  have hl := h1.len
  obtain ⟨A, c, rfl, -, -, -, hs⟩ := Owns.shape h1
  obtain ⟨g, rfl, -, hg, -, hc⟩ := hs hp
  refine ⟨g, c, rfl, hg, fun j hj => ?_⟩
  obtain ⟨A', c', a1, a2, -⟩ := h2 j hj
  have hj' : j < C.length := by omega
  refine ⟨A', c', (hc j hj').trans ?_, a2⟩
  rw [List.getElem?_eq_getElem hj'] at a1
  exact a1
set_option maxRecDepth 100000 in
set_option maxHeartbeats 4000000 in
theorem l5Reach_any (q : Nat) (A : Option Addr) (n c : Nat) (L : List Arc3) (hn : n = L.length) (ho : okB (q : Int) L = true) (w : World) (hm : n ≤ 1048576) (H1 : ArcsAt w w.heap.size A L) :
    Calls Try.prog 75 #[.agg #[.int .i64 (q : Int), .slice A n c]] w (NumsMade (reachS q (allS q L q)) w) := by
  obtain ⟨i0, hi, hz0, hz1, hz2⟩ := info_parts infoRow
  have I0 := Lib.hid hi
  have I1 := Lib.hid hz0
  have I2 := Lib.hid hz1
  have I3 := Lib.hid hz2
  obtain ⟨j0, hj, hy0, hy1, hy2⟩ := info_parts infoInt
  have J0 := Lib.hid hj
  have J1 := Lib.hid hy0
  have J2 := Lib.hid hy1
  have J3 := Lib.hid hy2
  have K1 := Lib.hid H1
  have HN := Lib.hid hn
  have HO := Lib.hid ho
  have hN1 := (okB_elim ho).1
  have hN24 := (okB_elim ho).2.1
  clear H1 hn ho hi hz0 hz1 hz2 hj hy0 hy1 hy2
  go_enter Try.func75, Try.ntmps75
  go_wp2_with fail
  go_loopw [3, 4] (fun pv i wr => ∃ k : Nat, k ≤ q ∧ i = .int .i64 k ∧ RowsOf wr (w.heap.size + 1) pv (rowsK q L k) ∧ Bl (w.alloc (.cells #[.int .i64 (q : Int), .slice A n c] 26)) wr) (fun _ i _ => q - (intOf i).toNat)
  case atStart =>
    refine ⟨0, by omega, rfl, ⟨[], ?_, fun j hj => absurd hj (by simp [rowsK])⟩, Bl.alloc_ (Bl.refl _) _⟩
    have h := World.ownsRow_made (base := w.heap.size + 1) (e := 117) (size := 1) (w.alloc (.cells #[.int .i64 (q : Int), .slice A n c] 26)) #[] 0 (by simp) (by unfold maxLen; omega) rfl
    rw [World.size_alloc] at h
    exact h
  case round =>
    obtain ⟨k, hk, rfl, hrows, hbl⟩ := hrel
    have RR := Lib.hid hrows
    have BB := Lib.hid hbl
    obtain ⟨q0, q1⟩ := box2 hbl
    have hsz : w.heap.size < wr.heap.size := by have := hbl.size; simp at this; omega
    clear hrows hbl
    by_cases hlt : k < q
    · have hk0 : (0 : Int) ≤ (k : Int) := by omega
      have hk1 : (k : Int) < (q : Int) := by omega
      go_wp2_with fail
      refine (l3Dist_any q k A n c L HN.out HO.out hk0 hk1 _ hm (K1.out.bl (((Bl.alloc_ (Bl.refl w) _).trans_ BB.out).trans_ (by repeat' (first | exact Bl.refl _ | with_reducible assumption | with_reducible refine Bl.drew_ ?_ | with_reducible refine Bl.drewN_ ?_ _ | with_reducible refine Bl.alloc_ ?_ _ | with_reducible refine Bl.trans_ ?_ (by assumption) | with_reducible refine Bl.trans_ ?_ (And.left (by assumption))))))).mono ?_
      rintro e w4 ⟨v4, rfl, hv4, hb4⟩
      have hl : (distL q L k).length = q := by rw [distL_len HO.out hk0 hk1]; simp
      obtain ⟨A5, c5, rfl, hc5, hi5, -, hl5⟩ := OwnN.shape hv4
      obtain ⟨C, hC1, hC2⟩ := RR.out.bl (show Bl wr w4 from (by repeat' (first | exact Bl.refl _ | with_reducible assumption | with_reducible refine Bl.drew_ ?_ | with_reducible refine Bl.drewN_ ?_ _ | with_reducible refine Bl.alloc_ ?_ _ | with_reducible refine Bl.trans_ ?_ (by assumption) | with_reducible refine Bl.trans_ ?_ (And.left (by assumption)))))
      rw [rowsK_len] at hC1
      have OC := Lib.hid hC1
      have OC2 := Lib.hid hC2
      have HI := Lib.hid hi5
      have HL5 := Lib.hid hl5
      have B4 := Lib.hid (show Bl wr w4 from (by repeat' (first | exact Bl.refl _ | with_reducible assumption | with_reducible refine Bl.drew_ ?_ | with_reducible refine Bl.drewN_ ?_ _ | with_reducible refine Bl.alloc_ ?_ _ | with_reducible refine Bl.trans_ ?_ (by assumption) | with_reducible refine Bl.trans_ ?_ (And.left (by assumption)))))
      rw [hl]
      have HLL := Lib.hid hl
      have s4 := B4.out.size
      clear hC1 hC2 hv4 hi5 hl5 hl hb4 q0 q1
      go_wp2_with (at_builtin; refine wpList_append_any _ rfl (.tmp 19) (.tmp 24) _ rfl (w.heap.size + 1) 117 i0 _ 1 24 Try.underlying115 I0.out I1.out I2.out I3.out rfl (by decide) _ k C rfl (World.ownsRow.alloc OC.out _) (w4.heap.size + 1) (some ⟨w4.heap.size, 0, none⟩) 1 1 [.slice A5 q c5] rfl ?c0 (by simp [Value.oneCell']) ?c3 ?c4 ?c5 ?_)
      case c0 =>
        refine ⟨rfl, fun _ => ⟨_, rfl, by show w4.heap.size < w4.heap.size + 1; omega, fun x u hj => ?_⟩⟩
        match x, hj with
        | 0, hj => simp at hj; subst hj; simp [Addr.add, go_sem]
        | (x + 1), hj => simp at hj
      case c3 => unfold maxLen; omega
      case c4 => omega
      case c5 => simp; omega
      intro v' w8 hown' hgrow hwh
      have BA : Bl w4 (w4.alloc (.cells #[.slice A5 q c5] 117)) := Bl.alloc_ (Bl.refl _) _
      have hOwnlt := Owns.lt OC.out
      have R8 := Lib.hid (RowsOf.snoc (R := rowsK q L k) (r := distL q L k) (C := C) (A := A5) (l := q) (c := c5) (k := k)
        (fun j hj => by
          obtain ⟨A', c', a1, a2, a3⟩ := OC2.out j hj
          exact ⟨A', c', a1, a2.bl BA, fun g hg => ⟨Nat.lt_of_lt_of_le (a3 g hg).1 BA.size, (a3 g hg).2⟩⟩)
        (by rw [OC.out.len, rowsK_len, Nat.mul_one]) (HI.out.bl BA) (fun g hg => ⟨Nat.lt_of_lt_of_le (HL5.out g hg).2 BA.size, fun h => by
          have h1 := HL5.out g hg
          obtain ⟨C9, k1, -⟩ := RR.out
          have h2 := Owns.lt k1 g h
          try simp at h1
          omega⟩) (rowsK_len q L k).symm HLL.out.symm hown' hgrow (by simpa using hwh))
      rw [← rowsK_succ] at R8
      have B8 := Lib.hid (show Bl (w.alloc (.cells #[.int .i64 (q : Int), .slice A n c] 26)) w8 from ((BB.out.trans_ B4.out).trans_ BA).grown_ hgrow (fun g hg => by have := hOwnlt g hg; simp; omega))
      clear hown' hgrow hwh BA hOwnlt
      go_wp2
      go_roundw
      case rel => exact ⟨k + 1, by omega, by go_num, R8.out, B8.out⟩
      case measure => simp [intOf]; omega
    · obtain rfl : k = q := by omega
      obtain ⟨w2, hw2⟩ : ∃ w2, w2 = wr := ⟨_, rfl⟩
      subst hw2
      have RF := Lib.hid (RR.out.row (by rw [rowsK_len]; omega))
      clear RR
      have ORD := Lib.hid (show Bl w w2 from (Bl.alloc_ (Bl.refl w) _).trans_ BB.out)
      have hRS := reachS_len k (allS (k : Int) L k)
      obtain ⟨g, cg, rfl, hgl, hrow⟩ := RF.out
      rw [rowsK_len]
      have HR := Lib.hid (show ∀ (j v : Nat), j < k → v < k → ∃ (g' o' c' : Nat), w2.cell? ⟨g, j, none⟩ = some (.slice (some ⟨g', o', none⟩) k c') ∧ g' < w2.heap.size ∧ w2.cell? ⟨g', o' + v, none⟩ = some (.int .i64 (dAt (distL k L (j : Int)) (v : Int))) from fun j v hj hv => by
        obtain ⟨A', c', a1, a2⟩ := hrow j (by rw [rowsK_len]; exact hj)
        rw [rowsK_at] at a1 a2
        have hl : (distL k L (j : Int)).length = k := by rw [distL_len HO.out (by omega) (by omega)]; simp
        rw [hl] at a1
        obtain ⟨g', o', rfl, hg', hc'⟩ := a2.cell (by omega)
        refine ⟨g', o', c', a1, hg', ?_⟩
        have := hc' v (by omega)
        rw [this, dAt_at (by omega)])
      have HTOP := Lib.hid (show ∀ (j : Nat) (v : Int), j < k → dAt (distL k L (j : Int)) v ≤ 23000 from fun j v hj => (distL_is (arcsIn_of_ok HO.out) hN24 (show (0 : Int) ≤ (j : Int) by omega) (by omega)).top (arcsIn_of_ok HO.out) hN24 (by omega) (by omega) v)
      clear RF hrow K1
      go_wp2_with fail
      have O0 := Lib.hid (show OwnN (w2.alloc (.cells #[] 2)) w2.heap.size (.slice (some ⟨w2.heap.size, 0, none⟩) 0 0) ((reachS k (allS k L k)).take 0) from by
        have h := World.ownsRow_made (base := w2.heap.size) (e := 2) (size := 1) w2 #[] 0 (by simp) (by unfold maxLen; omega) rfl
        simpa [OwnN, Owns, csI] using h)
      clear q0 q1
      go_loopw [5, 6] (fun ov i wx => ∃ v : Nat, v ≤ k ∧ i = .int .i64 v ∧ OwnN wx w2.heap.size ov ((reachS k (allS k L k)).take v) ∧ Bl w2 wx) (fun _ i _ => k - (intOf i).toNat)
      case atStart => exact ⟨0, by omega, rfl, O0.out, Bl.alloc_ (Bl.refl _) _⟩
      case round =>
        obtain ⟨v, hv, rfl, hO, hbx⟩ := hrel
        have OX := Lib.hid hO
        have BX := Lib.hid hbx
        clear hO hbx
        obtain ⟨wx, hwx⟩ : ∃ wx, wx = wr := ⟨_, rfl⟩
        subst hwx
        obtain ⟨q0, q1⟩ := box2 (BB.out.trans_ BX.out)
        have sx := BX.out.size
        by_cases hvk : v < k
        · have hvk' : (v : Int) < (k : Int) := by omega
          have v0 : (0 : Int) ≤ (v : Int) := by omega
          go_wp2_with fail
          clear q0 q1
          go_loopw [7, 8] (fun m i wr => ∃ (x : Int) (s : Nat), s ≤ k ∧ i = .int .i64 s ∧ m = .int .i64 x ∧ IsMax (seenST k L (v : Int) k s 0) x ∧ Bl wx wr) (fun _ i _ => k - (intOf i).toNat)
          case atStart => exact ⟨0, 0, by omega, rfl, rfl, seen_start, Bl.refl _⟩
          case round =>
            obtain ⟨x, s, hs, rfl, rfl, hmx, hby⟩ := hrel
            have MX := Lib.hid hmx
            have BY := Lib.hid hby
            clear hmx hby
            obtain ⟨wy, hwy⟩ : ∃ wy, wy = wr := ⟨_, rfl⟩
            subst hwy
            obtain ⟨q0, q1⟩ := box2 ((BB.out.trans_ BX.out).trans_ BY.out)
            by_cases hsk : s < k
            · have hsk' : (s : Int) < (k : Int) := by omega
              have s0 : (0 : Int) ≤ (s : Int) := by omega
              go_wp2_with fail
              clear q0 q1
              go_loopw [7, 9] (fun m i wr => ∃ (x : Int) (t : Nat), t ≤ k ∧ i = .int .i64 t ∧ m = .int .i64 x ∧ IsMax (seenST k L (v : Int) k s t) x ∧ Bl wy wr) (fun _ i _ => k - (intOf i).toNat)
              case atStart => exact ⟨x, 0, by omega, rfl, rfl, MX.out, Bl.refl _⟩
              case round =>
                clear MX
                obtain ⟨x, t, ht, rfl, rfl, hmx, hbz⟩ := hrel
                have MX := Lib.hid hmx
                have BZ := Lib.hid hbz
                clear hmx hbz
                obtain ⟨q0, q1⟩ := box2 (((BB.out.trans_ BX.out).trans_ BY.out).trans_ BZ.out)
                by_cases htk : t < k
                · have htk' : (t : Int) < (k : Int) := by omega
                  have t0 : (0 : Int) ≤ (t : Int) := by omega
                  have BW := Lib.hid ((BX.out.trans_ BY.out).trans_ BZ.out)
                  obtain ⟨g1, o1, c1, r1, l1, e1⟩ := HR.out s v hsk hvk
                  obtain ⟨g2, o2, c2, r2, l2, e2⟩ := HR.out v t hvk htk
                  obtain ⟨g3, o3, c3, r3, l3, e3⟩ := HR.out s t hsk htk
                  have m1 := HTOP.out s (v : Int) hsk
                  have m2 := HTOP.out v (t : Int) hvk
                  rw [r1] at r3
                  injection r3 with r3
                  injection r3 with r31 r32 r33
                  injection r31 with r31
                  injection r31 with r311 r312
                  subst r311 r312 r33
                  have ON := Lib.hid (fun h1 h2 h3 => seen_on (s := s) (t := t) (v := (v : Int)) hsk htk rfl rfl rfl h1 h2 h3 MX.out)
                  have OFF := Lib.hid (fun hn => seen_off (s := s) (t := t) (v := (v : Int)) rfl rfl rfl hn MX.out)
                  have hb := (bcell BW.out).1
                  rw [← hb _ _ hgl] at r1 r2
                  rw [← hb _ _ l1] at e1 e3
                  rw [← hb _ _ l2] at e2
                  generalize dAt (distL (k : Int) L (s : Int)) (v : Int) = a at *
                  generalize dAt (distL (k : Int) L (v : Int)) (t : Int) = b at *
                  generalize dAt (distL (k : Int) L (s : Int)) (t : Int) = d at *
                  clear hb MX HTOP HR
                  by_cases h1 : 0 ≤ a
                  · by_cases h2 : 0 ≤ b
                    · by_cases h3 : a + b = d
                      · have HM := Lib.hid (ON.out h1 h2 h3)
                        clear ON OFF
                        go_wp2
                        go_roundw
                        case rel => exact ⟨_, t + 1, by omega, by go_num, rfl, HM.out, BZ.out⟩
                        case measure => simp [intOf]; omega
                      · have HM := Lib.hid (OFF.out (fun h => h3 h.2.2))
                        have hb3 : (a + b == d) = false := by simpa using h3
                        clear ON OFF
                        go_wp2
                        go_roundw
                        case rel => exact ⟨_, t + 1, by omega, by go_num, rfl, HM.out, BZ.out⟩
                        case measure => simp [intOf]; omega
                    · have HM := Lib.hid (OFF.out (fun h => h2 h.2.1))
                      clear ON OFF
                      go_wp2
                      go_roundw
                      case rel => exact ⟨_, t + 1, by omega, by go_num, rfl, HM.out, BZ.out⟩
                      case measure => simp [intOf]; omega
                  · have HM := Lib.hid (OFF.out (fun h => h1 h.1))
                    clear ON OFF
                    go_wp2
                    go_roundw
                    case rel => exact ⟨_, t + 1, by omega, by go_num, rfl, HM.out, BZ.out⟩
                    case measure => simp [intOf]; omega
                · obtain rfl : t = k := by omega
                  have HM := Lib.hid (seen_row MX.out)
                  clear MX HTOP HR
                  go_wp2
                  go_roundw
                  case rel => exact ⟨x, s + 1, by omega, by go_num, rfl, HM.out, BY.out.trans_ BZ.out⟩
                  case measure => simp [intOf]; omega
            · obtain rfl : s = k := by omega
              have HV := Lib.hid (seen_all HO.out hvk MX.out)
              have OZ := Lib.hid (OX.out.bl BY.out)
              have BZ := Lib.hid (BX.out.trans_ BY.out)
              have hvl : v < (reachS s (allS (s : Int) L s)).length := by rw [hRS]; exact hvk
              have TS := Lib.hid (show (reachS s (allS (s : Int) L s)).take (v + 1) = (reachS s (allS (s : Int) L s)).take v ++ [x] from by
                rw [List.take_succ_eq_append_getElem hvl, HV.out]
                simp [hvl])
              have tl : ((reachS s (allS (s : Int) L s)).take v).length = v := by rw [List.length_take]; omega
              generalize (reachS s (allS (s : Int) L s)).take v = P at *
              have sz := BZ.out.size
              have LT := Lib.hid (Owns.lt OZ.out)
              have TL := Lib.hid tl
              clear MX HTOP HR OX
              go_wp2_with (at_builtin; refine wpList_append_any _ rfl (.tmp 86) (.tmp 88) _ rfl w2.heap.size 2 j0 _ 1 8 Try.underlying32 J0.out J1.out J2.out J3.out rfl (by decide) _ P.length (csI P) rfl (World.ownsRow.alloc OZ.out _) (wy.heap.size + 1) (some ⟨wy.heap.size, 0, none⟩) 1 1 [.int .i64 x] rfl ?c0 (by simp [Value.oneCell']) ?c3 ?c4 ?c5 ?_)
              case c0 =>
                refine ⟨rfl, fun _ => ⟨_, rfl, by show wy.heap.size < wy.heap.size + 1; omega, fun y u hj => ?_⟩⟩
                match y, hj with
                | 0, hj => simp at hj; subst hj; simp [Addr.add, go_sem]
                | (y + 1), hj => simp at hj
              case c3 => unfold maxLen; omega
              case c4 => omega
              case c5 => simp; omega
              intro v' w8 hown' hgrow hwh
              have O8 := Lib.hid (OwnN.snoc (V := P) (x := x) (n := v) TL.out.symm hown')
              have B8 := Lib.hid (show Bl w2 w8 from (BZ.out.alloc_ (.cells #[.int .i64 x] 2)).grown_ hgrow (fun g hg => (LT.out g hg).1))
              clear hown' hgrow hwh
              go_wp2
              go_roundw
              case rel => exact ⟨v + 1, by omega, by go_num, by rw [TS.out]; exact O8.out, B8.out⟩
              case measure => simp [intOf]; omega
        · obtain rfl : v = k := by omega
          have HF := Lib.hid (show (reachS v (allS (v : Int) L v)).take v = reachS v (allS (v : Int) L v) from List.take_of_length_le (by omega))
          clear HTOP HR
          go_wp2
          go_ret
          exact ⟨_, rfl, by rw [← HF.out]; exact OX.out.low ORD.out.size, ORD.out.trans_ BX.out⟩

set_option maxHeartbeats 400000 in
theorem specReachOf_any (N : Int) (A : Option Addr) (n c : Nat) (L : List Arc3) (hn : n = L.length) (w : World) (hm : n ≤ 1048576) (H1 : ArcsAt w w.heap.size A L) :
    Calls Try.prog 41 #[.agg #[.int .i64 N, .slice A n c]] w (NumsMade (reachL N L) w) := by
  have K1 := Lib.hid H1
  have HN := Lib.hid hn
  clear H1 hn
  cases ho : okB N L with
  | false =>
    have HO := Lib.hid ho
    clear ho
    go_enter Try.func41, Try.ntmps41
    go_wp2_with fail
    refine (specOk_any N A n c L HN.out _ (by omega) (K1.out.bl (by repeat' (first | exact Bl.refl _ | with_reducible assumption | with_reducible refine Bl.drew_ ?_ | with_reducible refine Bl.drewN_ ?_ _ | with_reducible refine Bl.alloc_ ?_ _ | with_reducible refine Bl.trans_ ?_ (by assumption) | with_reducible refine Bl.trans_ ?_ (And.left (by assumption)))))).mono ?_
    rintro e w1 ⟨rfl, hb1⟩
    rw [HO.out]
    go_wp2
    go_ret
    refine ⟨_, rfl, ?_, (by repeat' (first | exact Bl.refl _ | with_reducible assumption | with_reducible refine Bl.drew_ ?_ | with_reducible refine Bl.drewN_ ?_ _ | with_reducible refine Bl.alloc_ ?_ _ | with_reducible refine Bl.trans_ ?_ (by assumption) | with_reducible refine Bl.trans_ ?_ (And.left (by assumption))))⟩
    unfold reachL
    rw [HO.out, if_neg (by simp)]
    have h := World.ownsRow_made (base := w.heap.size) (e := 2) (size := 1) w1 #[] 0 (by have := hb1.size; simp at this; omega) (by unfold maxLen; omega) rfl
    simpa [OwnN, Owns, csI] using h
  | true =>
    have HO := Lib.hid ho
    have hN1 := (okB_elim ho).1
    clear ho
    obtain ⟨q, rfl⟩ : ∃ q : Nat, N = q := ⟨N.toNat, by omega⟩
    go_enter Try.func41, Try.ntmps41
    go_wp2_with fail
    refine (specOk_any (q : Int) A n c L HN.out _ (by omega) (K1.out.bl (by repeat' (first | exact Bl.refl _ | with_reducible assumption | with_reducible refine Bl.drew_ ?_ | with_reducible refine Bl.drewN_ ?_ _ | with_reducible refine Bl.alloc_ ?_ _ | with_reducible refine Bl.trans_ ?_ (by assumption) | with_reducible refine Bl.trans_ ?_ (And.left (by assumption)))))).mono ?_
    rintro e w1 ⟨rfl, hb1⟩
    rw [HO.out]
    obtain ⟨q0, q1⟩ := box2 hb1
    go_wp2_with fail
    refine (l5Reach_any q A n c L HN.out HO.out _ (by omega) (K1.out.bl (by repeat' (first | exact Bl.refl _ | with_reducible assumption | with_reducible refine Bl.drew_ ?_ | with_reducible refine Bl.drewN_ ?_ _ | with_reducible refine Bl.alloc_ ?_ _ | with_reducible refine Bl.trans_ ?_ (by assumption) | with_reducible refine Bl.trans_ ?_ (And.left (by assumption)))))).mono ?_
    rintro e w2 ⟨v, rfl, hv, hb2⟩
    have HV := Lib.hid hv
    have s1 := hb1.size
    clear hv
    go_wp2
    go_ret
    refine ⟨_, rfl, ?_, (by repeat' (first | exact Bl.refl _ | with_reducible assumption | with_reducible refine Bl.drew_ ?_ | with_reducible refine Bl.drewN_ ?_ _ | with_reducible refine Bl.alloc_ ?_ _ | with_reducible refine Bl.trans_ ?_ (by assumption) | with_reducible refine Bl.trans_ ?_ (And.left (by assumption))))⟩
    unfold reachL
    rw [HO.out, if_pos rfl]
    simp only [Int.toNat_natCast]
    refine OwnN.low HV.out ?_
    simp at s1 ⊢
    omega

end Go.Proofs.Ytjmooakjdcepcaa
