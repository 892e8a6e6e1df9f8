/-
  What is proved here: graphs and nodes that are drawn by a code; graphs, and graphs with a node, that are drawn by a code: for reaches, centers, spreads and what is reached; the code's passings, as it is called; tables of numbers in memory, and the code's table of all distances; What is stated here: of which functions and types of the program the library's sort of structs is made. No conditions; slices.SortFunc over arcs of which no two have the same ends puts them in order; impl.turned and impl.Reversed turn the arcs of a right graph and sort them; a function that holds several ranges over functions leaves by their marks. No conditions beyond those that each theorem states.
-/
import Derived.Test.YtpbgnidjgmmebaaTG14
import Derived.Test.YtpbgnidjgmmebaaTRB
import Derived.Test.YtpbgnidjgmmebaaTG11
import Derived.Test.YtpbgnidjgmmebaaTG10
import Derived.Shelf.SlLaysF0
import Derived.Shelf.SlGeneric
import Derived.Test.YtpbgnidjgmmebaaProg
import Derived.Test.YtpbgnidjgmmebaaTG04
import Derived.Shelf.SlSortCmp.NoneTotal
import Derived.Test.YtpbgnidjgmmebaaTG02
set_option linter.unusedSimpArgs false
set_option linter.unusedVariables false
namespace Go.Proofs.Ytpbgnidjgmmebaa
open Go.RowKit

theorem BytesAt.lt' {w : World} {A : Option Addr} {n : Nat} (h : BytesAt w A n) : 0 < n → ∀ g off, A = some ⟨g, off, none⟩ → g < w.heap.size := fun h0 g off e => by
  obtain ⟨g', off', e', hlt, -⟩ := h h0
  rw [e] at e'
  injection e' with e'
  injection e' with e1
  omega
theorem Drawn.far {B : Nat} {w w' : World} {N : Int} {A' : Option Addr} {l c' : Nat} {L : List Arc3} (h : Drawn B w N A' l c' L) {rd : Nat} (hg : w.grownBy w' (some rd)) (hr : rd < B) : Drawn B w' N A' l c' L :=
  ⟨h.1, h.2.1, h.2.2.1, h.2.2.2.grown_ hg (fun g e => by injection e with e; omega)⟩
theorem Drawn.low {B B' : Nat} {w : World} {N : Int} {A' : Option Addr} {l c' : Nat} {L : List Arc3} (h : Drawn B w N A' l c' L) (hB : B' ≤ B) : Drawn B' w N A' l c' L :=
  ⟨h.1, h.2.1, h.2.2.1, h.2.2.2.low hB⟩
theorem Drawn.bl {B : Nat} {w w' : World} {N : Int} {A' : Option Addr} {l c' : Nat} {L : List Arc3} (h : Drawn B w N A' l c' L) (hb : Bl w w') : Drawn B w' N A' l c' L :=
  ⟨h.1, h.2.1, h.2.2.1, OwnA.bl h.2.2.2 hb⟩
theorem Drawn.arcs {B : Nat} {w : World} {N : Int} {A' : Option Addr} {l c' : Nat} {L : List Arc3} (h : Drawn B w N A' l c' L) : ArcsAt w w.heap.size A' L ∧ l ≤ c' := by
  obtain ⟨h1, h2, h3, h4⟩ := h
  obtain ⟨AA, cc, e, ha, -⟩ := h4.shape
  injection e with e1 e2 e3
  refine ⟨by rw [e1]; exact ha, ?_⟩
  have h' : w.ownsRow B 34 3 (.slice A' l c') L.length (cs3 L) := h4
  rcases h'.2 with ⟨e, h0⟩ | ⟨g, cap, cur, e, hB, hg, hnc, -⟩
  · injection e with e1 e2 e3
    omega
  · injection e with e1 e2 e3
    omega




end Go.Proofs.Ytpbgnidjgmmebaa

set_option linter.unusedSimpArgs false
set_option linter.unusedVariables false
namespace Go.Proofs.Ytpbgnidjgmmebaa
open Go.RowKit

/-- A graph that is drawn by a code. -/
def DrawnG0 (w : World) (e : Ending) (w' : World) : Prop :=
  ∃ (N : Int) (A' : Option Addr) (l c' : Nat) (L : List Arc3), e = .returned (.agg #[.int .i64 N, .slice A' l c']) ∧ Drawn w.heap.size w' N A' l c' L ∧ Bl w w'

set_option maxRecDepth 100000 in
set_option maxHeartbeats 1000000 in
theorem drawReachOf_any (A : Option Addr) (n c : Nat) (w : World) (hn : n ≤ 1099511627776) (H : BytesAt w A n) :
    Calls Try.prog 52 #[.slice A n c] w (DrawnG0 w) := by
  have K := Lib.hid H
  clear H
  go_enter Try.func52, Try.ntmps52
  go_wp2_with fail
  refine (open_any A n c _ (K.out.bl (by repeat' (first | exact Bl.refl _ | with_reducible assumption | with_reducible refine Bl.drew_ ?_ | with_reducible refine Bl.drewN_ ?_ _ | with_reducible refine Bl.alloc_ ?_ _ | with_reducible refine Bl.trans_ ?_ (by assumption) | with_reducible refine Bl.trans_ ?_ (And.left (by assumption)))))).mono ?_
  rintro e w1 ⟨rfl, hr, hb, hlt⟩
  have R1 := Lib.hid (show RdAny w1 (w.heap.size + 1) A n c from by rw [World.size_alloc] at hr; exact hr)
  have B1 := Lib.hid hb
  have s1 := hb.size
  simp only [World.size_alloc] at s1 hlt
  clear hr hb
  go_wp2_with fail
  refine (graph_any 8 (w.heap.size + 1) A n c _ hn (by omega) (by omega) R1.out (fun h0 g off e => by have := K.out.lt' h0 g off e; omega)).mono ?_
  rintro e w2 ⟨N, A', l, c', L, rfl, hd, hr, hg⟩
  have D2 := Lib.hid hd
  have G2 := Lib.hid hg
  have s2 := hg.size
  have B2 := Lib.hid (show Bl (w.alloc (.cells #[.int .i64 0, .slice none 0 0] 26)) w2 from B1.out.grown_ hg (fun g e => by injection e with e; simp; omega))
  obtain ⟨r0, r1, fr0, fr1⟩ := Two.facts ((Two.new w (.int .i64 0) (.slice none 0 0)).bl B2.out)
  clear hd hr hg
  go_wp2
  refine bodyPost_ret (v := .agg #[.int .i64 N, .slice A' l c']) (by simp [results, Try.results52, go_sem, r0, r1, fr0, fr1]) rfl ?_
  have D3 := D2.out
  have B3 : Bl w w2 := (Bl.alloc_ (Bl.refl w) _).trans_ B2.out
  exact ⟨N, A', l, c', L, rfl, ⟨D3.1, D3.2.1, D3.2.2.1, ((D3.2.2.2.set_ (by show w.heap.size < w1.heap.size; omega) _).set_ (by show w.heap.size < w1.heap.size; omega) _).low (by omega)⟩, (B3.set_ (Nat.le_refl _) _).set_ (Nat.le_refl _) _⟩




end Go.Proofs.Ytpbgnidjgmmebaa

set_option linter.unusedSimpArgs false
set_option linter.unusedVariables false
namespace Go.Proofs.Ytpbgnidjgmmebaa
open Go.RowKit Go.Shelf
attribute [local go_sem] Oper.semAt_some

theorem nums_box (w : World) (t : TypeId) (E : List Int) (hE : E.length = 24) : NumsAt (w.alloc (.cells (E.map (Value.int .i64)).toArray t)) w.heap.size E := by
  refine ⟨by simp, hE, fun i hi => ?_, fun i hi => ?_⟩
  · simp [go_sem, hi]
  · simp [go_sem]

set_option maxHeartbeats 400000 in
theorem passings_any (n : Int) (D E : List Int) (hD : D.length = 24) (hE : E.length = 24) (w : World) :
    Calls Try.prog 102 #[.int .i64 n, .agg (D.map (Value.int .i64)).toArray, .agg (E.map (Value.int .i64)).toArray] w fun e w' =>
      e = .returned (.func (.func 116) #[] #[.pointer (some ⟨w.heap.size, 0, none⟩), .pointer (some ⟨w.heap.size + 1, 0, none⟩), .pointer (some ⟨w.heap.size + 2, 0, none⟩)]) ∧
      w' = ((w.alloc (.cells #[.int .i64 n] 2)).alloc (.cells (D.map (Value.int .i64)).toArray 75)).alloc (.cells (E.map (Value.int .i64)).toArray 75) := by
  go_enter Try.func102, Try.ntmps102
  go_wp2
  go_ret
  exact ⟨rfl, rfl⟩

end Go.Proofs.Ytpbgnidjgmmebaa

set_option linter.unusedSimpArgs false
set_option linter.unusedVariables false
namespace Go.Proofs.Ytpbgnidjgmmebaa
open Go.RowKit

/-- The cells of a block from 0 on hold these numbers, and may be written. -/
structure ManyAt (w : World) (b : Nat) (E : List Int) : Prop where
  lt : b < w.heap.size
  cell : ∀ i (h : i < E.length), w.cell? ⟨b, i, none⟩ = some (.int .i64 E[i])
  free : ∀ i, i < E.length → w.frozen? ⟨b, i, none⟩ = false
theorem ManyAt.turn {w w' : World} {b : Nat} {E : List Int} (h : ManyAt w b E) {S : Nat → Prop} (k : Turn S w w') (hS : ¬ S b) : ManyAt w' b E :=
  ⟨Nat.lt_of_lt_of_le h.lt k.size, fun i hi => (k.cells h.lt hS i).1.trans (h.cell i hi), fun i hi => (k.cells h.lt hS i).2.trans (h.free i hi)⟩
theorem ManyAt.bl {w w' : World} {b : Nat} {E : List Int} (h : ManyAt w b E) (k : Bl w w') : ManyAt w' b E := h.turn (Turn.of_bl (S := fun _ => False) k) id
theorem ManyAt.there_ {w : World} {b : Nat} {E : List Int} (h : ManyAt w b E) {o m : Nat} (hm : o + m ≤ E.length) : w.there b o m := fun j hj =>
  ⟨by rw [h.cell (o + j) (by omega)]; rfl, h.free _ (by omega)⟩
theorem ManyAt.range {w : World} {b : Nat} {E : List Int} (h : ManyAt w b E) : w.rangeAt b 0 (csI E) := fun j v hv => by
  obtain ⟨hj, rfl⟩ := List.getElem?_eq_some_iff.1 hv
  rw [csI_len] at hj
  rw [Nat.zero_add, csI_at]
  exact h.cell j hj
theorem ManyAt.part {w : World} {b : Nat} {E : List Int} (h : ManyAt w b E) (o m : Nat) : w.rangeAt b o (csI ((E.drop o).take m)) := fun j v hv => by
  obtain ⟨hj, rfl⟩ := List.getElem?_eq_some_iff.1 hv
  rw [csI_len, List.length_take, List.length_drop] at hj
  rw [csI_at, List.getElem_take, List.getElem_drop]
  exact h.cell (o + j) (by omega)

/-- These numbers laid over others, from o on. -/
def putAt (E V : List Int) (o : Nat) : List Int := E.take o ++ V ++ E.drop (o + V.length)
theorem putAt_len {E V : List Int} {o : Nat} (h : o + V.length ≤ E.length) : (putAt E V o).length = E.length := by
  unfold putAt
  simp only [List.length_append, List.length_take, List.length_drop]
  omega
theorem putAt_in {E V : List Int} {o j : Nat} (h : o + V.length ≤ E.length) (hj : j < V.length) : (putAt E V o).getD (o + j) 0 = V.getD j 0 := by
  unfold putAt
  rw [List.getD_eq_getElem?_getD, List.getD_eq_getElem?_getD, List.append_assoc, List.getElem?_append_right (by simp; omega), List.getElem?_append_left (by simp; omega)]
  congr 2
  simp
  omega
theorem putAt_out {E V : List Int} {o i : Nat} (h : o + V.length ≤ E.length) (hi : i < o ∨ o + V.length ≤ i) : (putAt E V o).getD i 0 = E.getD i 0 := by
  unfold putAt
  rw [List.getD_eq_getElem?_getD, List.getD_eq_getElem?_getD, List.append_assoc]
  rcases hi with hi | hi
  · rw [List.getElem?_append_left (by simp; omega), List.getElem?_take_of_lt hi]
  · rw [List.getElem?_append_right (by simp; omega), List.getElem?_append_right (by simp; omega), List.getElem?_drop]
    congr 2
    simp
    omega
theorem getD_at {E : List Int} {i : Nat} (h : i < E.length) : E.getD i 0 = E[i] := by simp [h]
theorem ManyAt.put {w : World} {b : Nat} {E V : List Int} {o : Nat} (h : ManyAt w b E) (ho : o + V.length ≤ E.length) : ManyAt (w.setCells b o (csI V)) b (putAt E V o) := by
  refine ⟨by rw [setCells_size]; exact h.lt, fun i hi => ?_, fun i hi => ?_⟩
  · rw [putAt_len ho] at hi
    have e : (putAt E V o)[i]'(by rw [putAt_len ho]; exact hi) = (putAt E V o).getD i 0 := (getD_at _).symm
    rw [e]
    by_cases hio : o ≤ i ∧ i < o + V.length
    · obtain ⟨j, rfl⟩ : ∃ j, i = o + j := ⟨i - o, by omega⟩
      rw [putAt_in ho (by omega), getD_at (by omega)]
      have := World.rangeAt_setCells_same w b o (csI V) (by rw [csI_len]; exact h.there_ ho) j (.int .i64 (V[j]'(by omega))) (by rw [List.getElem?_eq_getElem (by rw [csI_len]; omega), csI_at])
      exact this
    · rw [putAt_out ho (by omega), getD_at hi]
      rw [World.cell?_setCells_out b (csI V) o w ⟨b, i, none⟩ (fun _ _ => by rw [csI_len]; show i < o ∨ o + V.length ≤ i; omega)]
      exact h.cell i hi
  · rw [World.frozen?_setCells]
    rw [putAt_len ho] at hi
    exact h.free i hi
theorem ManyAt.over {w : World} {b : Nat} {E V : List Int} (h : ManyAt w b E) (hl : V.length = E.length) : ManyAt (w.setCells b 0 (csI V)) b V := by
  have e : putAt E V 0 = V := by unfold putAt; simp; omega
  have := h.put (V := V) (o := 0) (by omega)
  rwa [e] at this

/-- Of each node the distances from it, one row behind the other. -/
def IsTable (N : Int) (L : List Arc3) (k : Nat) (E : List Int) : Prop := E.length = 576 ∧ ∀ s v : Nat, s < k → (v : Int) < N → E.getD (s * 24 + v) 0 = dAt (distL N L (s : Int)) (v : Int)

theorem zeros576 : Try.zeroCells115 = ((List.replicate 576 (0 : Int)).map (Value.int .i64)).toArray := by kernel_rfl
theorem many_box (w : World) (t : TypeId) (E : List Int) : ManyAt (w.alloc (.cells (E.map (Value.int .i64)).toArray t)) w.heap.size E := by
  have h := World.rowIs_alloc w (E.map (Value.int .i64)).toArray t (fun i => .int .i64 (E.getD i 0)) (fun i hi => by
    rw [List.size_toArray, List.length_map] at hi
    simp [hi])
  refine ⟨by rw [World.size_alloc]; omega, fun i hi => ?_, fun i hi => h.frozen i⟩
  rw [h.cell (by rw [List.size_toArray, List.length_map]; exact hi), getD_at hi]
theorem many_new (w : World) (t : TypeId) : ManyAt (w.alloc (.cells Try.zeroCells115 t)) w.heap.size (List.replicate 576 0) := by
  rw [zeros576]
  exact many_box w t _
theorem size576 : (Try.prog.info? 115).map (·.size) = some 576 := by kernel_rfl
theorem size24' : (Try.prog.info? 75).map (·.size) = some 24 := by kernel_rfl

set_option maxRecDepth 100000 in
set_option maxHeartbeats 4000000 in
theorem tableOf_any (q : Nat) (A : Option Addr) (n c : Nat) (L : List Arc3) (hn : n = L.length) (hc : n ≤ c) (ho : okB q L = true) (w : World) (H1 : ArcsAt w w.heap.size A L) :
    Calls Try.prog 106 #[.agg #[.int .i64 (q : Int), .slice A n c]] w fun e w' => ∃ E : List Int, e = .returned (.agg (E.map (Value.int .i64)).toArray) ∧ IsTable q L q E ∧ Bl w w' := by
  have K1 := Lib.hid H1
  have HN := Lib.hid hn
  have HO := Lib.hid ho
  have hq1 := (okB_elim ho).1
  have hq24 := (okB_elim ho).2.1
  clear H1 hn ho
  have M1 := Lib.hid (show ∀ wx, Bl (((w.alloc (.cells #[.int .i64 (q : Int), .slice A n c] 26)).alloc (.cells Try.zeroCells115 115))) wx → ManyAt wx (w.heap.size + 1) (List.replicate 576 0) from fun wx hb => by
    have := (many_new (w.alloc (.cells #[.int .i64 (q : Int), .slice A n c] 26)) 115).bl hb
    simpa only [World.size_alloc] using this)
  have M2 := Lib.hid (show ManyAt (((w.alloc (.cells #[.int .i64 (q : Int), .slice A n c] 26)).alloc (.cells Try.zeroCells115 115)).alloc (.cells Try.zeroCells115 115)) (w.heap.size + 2) (List.replicate 576 0) from by
    have := (many_new ((w.alloc (.cells #[.int .i64 (q : Int), .slice A n c] 26)).alloc (.cells Try.zeroCells115 115)) 115)
    simpa only [World.size_alloc] using this)
  go_enter Try.func106, Try.ntmps106
  go_wp2_with fail
  go_loopw [7] (fun i wr => ∃ j : Nat, j ≤ q ∧ i = .int .i64 j ∧ Bl ((w.alloc (.cells #[.int .i64 (q : Int), .slice A n c] 26)).alloc (.cells Try.zeroCells115 115)) wr ∧ ∃ E, ManyAt wr (w.heap.size + 2) E ∧ Hid (IsTable q L j E)) (fun i _ => q - (intOf i).toNat)
  case atStart => exact ⟨0, by omega, rfl, (Bl.refl _).alloc_ _, _, M2.out, Lib.hid ⟨by simp, fun s v h => absurd h (by omega)⟩⟩
  case round =>
    obtain ⟨j, hj, rfl, hbl, E, hE, hT⟩ := hrel
    have HE := Lib.hid hE
    have BB := Lib.hid hbl
    have BW := Lib.hid (show Bl w wr from ((Bl.alloc_ (Bl.alloc_ (Bl.refl w) _) _).trans_ hbl))
    have hsz := hbl.size
    simp only [World.size_alloc] at hsz
    obtain ⟨q0, q1⟩ := box2 ((Bl.alloc_ (Bl.refl (w.alloc (.cells #[.int .i64 (q : Int), .slice A n c] 26))) _).trans_ hbl)
    clear hE hbl
    by_cases hlt : j < q
    · have hlt' : (j : Int) < (q : Int) := by omega
      have j0 : (0 : Int) ≤ (j : Int) := by omega
      have j1 : (j : Int) < 24 := by omega
      go_wp2_with fail
      refine (distances_any q j A n c L HN.out hc HO.out j0 hlt' _ (K1.out.bl BW.out)).mono ?_
      rintro e w2 ⟨F, rfl, hF, hFd, hb2⟩
      have FL := Lib.hid hF
      have FD := Lib.hid hFd
      have B2 := Lib.hid hb2
      have HE2 := Lib.hid (HE.out.bl hb2)
      have hlen := hT.out.1
      have HL := Lib.hid hlen
      clear hF hFd hb2 q0 q1
      go_wp2_with (refine wpList_store_mid rfl 75 (.tmp 14) (.tmp 13) rfl (w.heap.size + 2) (j * 24) (csI F).toArray rfl rfl ?c1 ?c2 (csI_one _) ?_)
      case c1 => simpa [csI_len, FL.out] using HE2.out.there_ (o := j * 24) (m := 24) (by rw [HL.out]; omega)
      case c2 => simpa [csI_len, FL.out] using size24'
      clear hlen
      go_roundw
      case rel =>
        refine ⟨j + 1, by omega, by go_num, Bl.setCells_ _ (by simp) _ _ _ (BB.out.trans_ B2.out), _, HE2.out.put (V := F) (o := j * 24) (by rw [FL.out, HL.out]; omega), Lib.hid ⟨by rw [putAt_len (by rw [FL.out, HL.out]; omega)]; exact HL.out, fun s v hs hv => ?_⟩⟩
        rcases Nat.lt_or_ge s j with h | h
        · rw [putAt_out (by rw [FL.out, HL.out]; omega) (by omega)]
          exact hT.out.2 s v h hv
        · obtain rfl : s = j := by omega
          rw [putAt_in (by rw [FL.out, HL.out]; omega) (by rw [FL.out]; omega)]
          have hd : (distL q L (s : Int)).length = q := by rw [distL_len HO.out j0 hlt']; simp
          have hv' : v < q := by omega
          rw [← FD.out, dAt_at (by rw [List.length_take, FL.out]; simp; omega), List.getElem_take, getD_at (by rw [FL.out]; omega)]
      case measure => simp [intOf]; omega
    · obtain rfl : j = q := by omega
      have hlen := hT.out.1
      have HL := Lib.hid hlen
      have MR := Lib.hid (M1.out _ BB.out)
      have hne : w.heap.size + 1 + 1 ≠ w.heap.size + 1 := by omega
      go_wp2_with (first | (refine wpList_load_mid rfl 115 (.tmp 3) rfl (w.heap.size + 2) 0 rfl (csI E) _ HE.out.range Try.underlying115 rfl (by rw [csI_len, HL.out]; exact size576) ?_) | (refine wpList_store_mid rfl 115 (.tmp 2) (.tmp 16) rfl (w.heap.size + 1) 0 (csI E).toArray rfl rfl ?c3 ?c4 (csI_one _) ?_))
      case c3 => simpa [csI_len, HL.out] using MR.out.there_ (o := 0) (m := 576) (by simp)
      case c4 => simpa [csI_len, HL.out] using size576
      have hov := MR.out.over (V := E) (by rw [HL.out]; simp)
      refine ⟨rfl, _, results_cell_mid rfl _ _ (w.heap.size + 1) (csI E) _ rfl hov.range Try.underlying115 rfl (by rw [csI_len, HL.out]; exact size576), ?_⟩
      exact ⟨E, rfl, hT.out, Bl.setCells_ _ (by omega) _ _ _ BW.out⟩

end Go.Proofs.Ytpbgnidjgmmebaa

namespace Go.Proofs.Ytpbgnidjgmmebaa
open Go.Shelf

def sortArcs_ren : Go.Shelf.Ren := ⟨fun | 6 => 95 | 15 => 112 | 14 => 111 | 28 => 126 | 29 => 127 | 20 => 118 | 21 => 119 | 22 => 120 | 23 => 121 | 24 => 122 | 25 => 123 | 26 => 124 | 27 => 125 | 46 => 132 | 47 => 133 | 48 => 134 | 49 => 135 | 50 => 136 | 57 => 139 | n => n, fun | 22 => 24 | 24 => 34 | 25 => 98 | 3 => 3 | 39 => 123 | 0 => 0 | 53 => 138 | 55 => 126 | 4 => 4 | 46 => 132 | 45 => 131 | 50 => 95 | 5 => 5 | 9 => 9 | 66 => 149 | 70 => 152 | 76 => 155 | 77 => 156 | n => n, fun | n => n⟩
theorem sortArcs : Go.Proofs.SlLaysF0.n6 Try.prog sortArcs_ren := {
  mixed := by kernel_rfl
  f6 := ⟨Try.f95.name, by decide, Try.func95.trans (congrArg some (by kernel_rfl))⟩
  f14 := ⟨Try.f111.name, by decide, Try.func111.trans (congrArg some (by kernel_rfl))⟩
  f15 := Try.func112.trans (congrArg some (by kernel_rfl))
  f20 := ⟨Try.f118.name, by decide, Try.func118.trans (congrArg some (by kernel_rfl))⟩
  f21 := ⟨Try.f119.name, by decide, Try.func119.trans (congrArg some (by kernel_rfl))⟩
  f22 := ⟨Try.f120.name, by decide, Try.func120.trans (congrArg some (by kernel_rfl))⟩
  f23 := ⟨Try.f121.name, by decide, Try.func121.trans (congrArg some (by kernel_rfl))⟩
  f24 := ⟨Try.f122.name, by decide, Try.func122.trans (congrArg some (by kernel_rfl))⟩
  f25 := ⟨Try.f123.name, by decide, Try.func123.trans (congrArg some (by kernel_rfl))⟩
  f26 := ⟨Try.f124.name, by decide, Try.func124.trans (congrArg some (by kernel_rfl))⟩
  f27 := ⟨Try.f125.name, by decide, Try.func125.trans (congrArg some (by kernel_rfl))⟩
  f28 := Try.func126.trans (congrArg some (by kernel_rfl))
  f29 := Try.func127.trans (congrArg some (by kernel_rfl))
  f46 := ⟨Try.f132.name, by decide, Try.func132.trans (congrArg some (by kernel_rfl))⟩
  f47 := Try.func133.trans (congrArg some (by kernel_rfl))
  f48 := Try.func134.trans (congrArg some (by kernel_rfl))
  f49 := ⟨Try.f135.name, by decide, Try.func135.trans (congrArg some (by kernel_rfl))⟩
  f50 := ⟨Try.f136.name, by decide, Try.func136.trans (congrArg some (by kernel_rfl))⟩
  f57 := ⟨Try.f139.name, by decide, Try.func139.trans (congrArg some (by kernel_rfl))⟩
  t0 := Try.underlying0
  a0 := Try.isAgg0
  z0 := Try.sizeOf0
  v0 := Try.zeroValue0
  t3 := Try.underlying3
  a3 := Try.isAgg3
  z3 := Try.sizeOf3
  v3 := Try.zeroValue3
  t4 := Try.underlying4
  a4 := Try.isAgg4
  z4 := Try.sizeOf4
  v4 := Try.zeroValue4
  t5 := Try.underlying5
  a5 := Try.isAgg5
  z5 := Try.sizeOf5
  v5 := Try.zeroValue5
  t9 := Try.underlying9
  a9 := Try.isAgg9
  z9 := Try.sizeOf9
  v9 := Try.zeroValue9
  t22 := Try.underlying24
  a22 := Try.isAgg24
  z22 := Try.sizeOf24
  v22 := Try.zeroValue24
  t25 := Try.underlying98
  a25 := Try.isAgg98
  z25 := Try.sizeOf98
  v25 := Try.zeroValue98
  t39 := Try.underlying123
  a39 := Try.isAgg123
  z39 := Try.sizeOf123
  v39 := Try.zeroValue123
  t45 := Try.underlying131
  a45 := Try.isAgg131
  z45 := Try.sizeOf131
  v45 := Try.zeroValue131
  t46 := Try.underlying132
  a46 := Try.isAgg132
  z46 := Try.sizeOf132
  v46 := Try.zeroValue132
  t50 := Try.underlying95
  a50 := Try.isAgg95
  z50 := Try.sizeOf95
  v50 := Try.zeroValue95
  t53 := Try.underlying138
  a53 := Try.isAgg138
  z53 := Try.sizeOf138
  v53 := Try.zeroValue138
  t55 := Try.underlying126
  a55 := Try.isAgg126
  z55 := Try.sizeOf126
  v55 := Try.zeroValue126
  t66 := Try.underlying149
  a66 := Try.isAgg149
  z66 := Try.sizeOf149
  v66 := Try.zeroValue149
  t70 := Try.underlying152
  a70 := Try.isAgg152
  z70 := Try.sizeOf152
  v70 := Try.zeroValue152
  t76 := Try.underlying155
  a76 := Try.isAgg155
  z76 := Try.sizeOf155
  v76 := Try.zeroValue155
  t77 := Try.underlying156
  a77 := Try.isAgg156
  z77 := Try.sizeOf156
  v77 := Try.zeroValue156 }

end Go.Proofs.Ytpbgnidjgmmebaa

set_option linter.unusedSimpArgs false
set_option linter.unusedVariables false
namespace Go.Proofs.Ytpbgnidjgmmebaa
open Go.RowKit Go.Sort

/-- Draws and new blocks alone. -/
def Gr (w w' : World) : Prop := ∃ q os, w' = Sort.grow (w.drewN q) os
theorem Gr.refl (w : World) : Gr w w := ⟨0, #[], (grow_empty w).symm⟩
theorem Gr.alloc_ {w w' : World} (h : Gr w w') (o : Obj) : Gr w (w'.alloc o) := by
  obtain ⟨q, os, rfl⟩ := h
  exact ⟨q, os ++ #[o], by rw [alloc_eq_grow, grow_grow]⟩
theorem Gr.drew_ {w w' : World} (h : Gr w w') : Gr w w'.drew := by
  obtain ⟨q, os, rfl⟩ := h
  exact ⟨q + 1, os, rfl⟩
theorem Gr.drewN_ {w w' : World} (h : Gr w w') (n : Nat) : Gr w (w'.drewN n) := by
  obtain ⟨q, os, rfl⟩ := h
  exact ⟨q + n, os, by simp [Sort.grow, World.drewN, Nat.add_assoc]⟩
theorem Gr.trans_ {a b c : World} (h : Gr a b) (k : Gr b c) : Gr a c := by
  obtain ⟨q', os', rfl⟩ := k
  obtain ⟨q, os, h⟩ := h.drewN_ q'
  exact ⟨q, os ++ os', by rw [h, grow_grow]⟩
theorem Gr.bl {w w' : World} (h : Gr w w') : Bl w w' := by
  obtain ⟨q, os, rfl⟩ := h
  exact ⟨rfl, rfl, rfl, by rw [size_grow]; exact Nat.le_add_right _ _, fun i hi => heap_grow_old _ os hi⟩

theorem two_boxes_g {w wx : World} {a b x c d y : Int} (h : Gr ((w.alloc (.cells #[.int .i64 a, .int .i64 b, .int .i64 x] 34)).alloc (.cells #[.int .i64 c, .int .i64 d, .int .i64 y] 34)) wx) :
    Gr ((w.alloc (.cells #[.int .i64 a, .int .i64 b, .int .i64 x] 34)).alloc (.cells #[.int .i64 c, .int .i64 d, .int .i64 y] 34)) wx ∧ wx.cell? ⟨w.heap.size, 0, none⟩ = some (.int .i64 a) ∧ wx.cell? ⟨w.heap.size, 1, none⟩ = some (.int .i64 b) ∧ wx.cell? ⟨w.heap.size + 1, 0, none⟩ = some (.int .i64 c) ∧ wx.cell? ⟨w.heap.size + 1, 1, none⟩ = some (.int .i64 d) :=
  ⟨h, (two_boxes h.bl).2⟩

set_option maxHeartbeats 1000000 in
theorem ends_gr (a b x c d y : Int) (w : World) :
    Calls Try.prog 94 #[.agg #[.int .i64 a, .int .i64 b, .int .i64 x], .agg #[.int .i64 c, .int .i64 d, .int .i64 y]] w fun e w' => e = .returned (.int .i64 (endsI a b c d)) ∧ Gr w w' := by
  go_enter Try.func94, Try.ntmps94
  go_wp2
  go_region_held3 (fun wx => Gr ((w.alloc (.cells #[.int .i64 a, .int .i64 b, .int .i64 x] 34)).alloc (.cells #[.int .i64 c, .int .i64 d, .int .i64 y] 34)) wx ∧ wx.cell? ⟨w.heap.size, 0, none⟩ = some (.int .i64 a) ∧ wx.cell? ⟨w.heap.size, 1, none⟩ = some (.int .i64 b) ∧ wx.cell? ⟨w.heap.size + 1, 0, none⟩ = some (.int .i64 c) ∧ wx.cell? ⟨w.heap.size + 1, 1, none⟩ = some (.int .i64 d)) (exact two_boxes_g (by repeat' (first | exact Gr.refl _ | with_reducible assumption | with_reducible refine Gr.drew_ ?_ | with_reducible refine Gr.drewN_ ?_ _ | with_reducible refine Gr.alloc_ ?_ _ | with_reducible refine Gr.trans_ ?_ (by assumption) | with_reducible refine Gr.trans_ ?_ (And.left (by assumption))))) (first | (go_at_call 110; refine (cmp_any _ _ _).mono ?_; rintro e w' ⟨rfl, rfl⟩) | (go_at_call 109; refine (or_any (cmpI a c) (cmpI b d) _ _ _ ?_ ?_).mono ?_; (· go_simp); (· go_simp); rintro e w' ⟨rfl, rfl⟩))
  go_wp2
  go_ret
  exact ⟨ret_int rfl, (by repeat' (first | exact Gr.refl _ | with_reducible assumption | with_reducible refine Gr.drew_ ?_ | with_reducible refine Gr.drewN_ ?_ _ | with_reducible refine Gr.alloc_ ?_ _ | with_reducible refine Gr.trans_ ?_ (by assumption) | with_reducible refine Gr.trans_ ?_ (And.left (by assumption))))⟩

/-- An arc's cells. -/
def enc3 (a : Arc3) : List Value := [.int .i64 a.1, .int .i64 a.2.1, .int .i64 a.2.2]
/-- The order of two arcs by their ends, as a number. -/
def endsC (x y : Arc3) : Int := endsI x.1 x.2.1 y.1 y.2.1
theorem ltOf_ends (x y : Arc3) : ltOf endsC x y = aheadB x.1 x.2.1 y.1 y.2.1 := ends_neg _ _ _ _
theorem swo_ends : SWO (ltOf endsC) where
  irrefl x := by rw [ltOf_ends]; exact ahead_irrefl _ _
  trans x y z h1 h2 := by rw [ltOf_ends] at *; exact ahead_trans h1 h2
  ntrans x y z h1 h2 := by
    rw [ltOf_ends] at *
    simp only [aheadB, decide_eq_false_iff_not] at *
    omega
theorem cmp_lays (blk off size : Nat) (w : World) : CmpLays Try.prog 94 #[] enc3 3 endsC blk off size w := fun _ _ _ _ x y => ends_gr _ _ _ _ _ _ _

theorem sorted_turned {L : List Arc3} {d d' : Array Arc3} (hs : L.Pairwise AheadP) (hd : d.toList = L.map turnA) (hp : PermIn 0 d.size d d') (hso : SortedIn (ltOf endsC) 0 d.size d') : d'.toList = revL L := by
  obtain ⟨hsz, -, hperm⟩ := hp
  have e1 : d'.extract 0 d.size = d' := by rw [← hsz]; exact Array.extract_size
  rw [e1, Array.extract_size, hd] at hperm
  obtain ⟨r1, r2⟩ := revL_sorted hs
  have hne : (L.map turnA).Pairwise (fun a b => ¬ (a.1 = b.1 ∧ a.2.1 = b.2.1)) := by
    rw [List.pairwise_map]
    exact hs.imp fun {a b} h => fun hc => ahead_ne h ⟨hc.2, hc.1⟩
  have hne' := hperm.symm.pairwise hne (fun {x y} h => fun hc => h ⟨hc.1.symm, hc.2.symm⟩)
  refine sorted_uniq ?_ r1 (hperm.trans r2.symm)
  rw [List.pairwise_iff_getElem] at hne' ⊢
  intro i j hi hj hij
  have hi' : i < d'.size := by simpa using hi
  have hj' : j < d'.size := by simpa using hj
  have h1 := hso i j (Nat.zero_le _) hij (by omega)
  rw [getElem!_pos d' j hj', getElem!_pos d' i hi', ltOf_ends] at h1
  have h2 := hne' i j hi hj hij
  exact ahead_total (by simpa using h1) (fun hc => h2 ⟨hc.1.symm, hc.2.symm⟩)

theorem flat_arcs (T : List Arc3) : flatK enc3 3 T.toArray = (cs3 T).toArray := by
  refine ext_get! (by simp [cs3_length]) fun t ht => ?_
  have ht' : t < T.toArray.size * 3 := by simpa using ht
  have htl : t < T.length * 3 := by simpa using ht'
  rw [get_flatK _ _ _ _ ht']
  have hk : t / 3 < T.length := by omega
  obtain ⟨a, b, c⟩ := cs3_at T (t / 3) hk
  have e : t = t / 3 * 3 + t % 3 := by omega
  have h3 : t % 3 = 0 ∨ t % 3 = 1 ∨ t % 3 = 2 := by omega
  have hg : T.toArray[t / 3]! = T[t / 3] := by rw [getElem!_pos T.toArray (t / 3) (by simpa using hk)]; simp
  have key : ∀ r, t % 3 = r → (cs3 T).toArray[t]! = ((cs3 T)[t / 3 * 3 + r]?).getD default := fun r hr => by
    rw [← hr, ← e]
    simp
  rw [hg]
  rcases h3 with h3 | h3 | h3
  · rw [key 0 h3, Nat.add_zero, a, h3]; rfl
  · rw [key 1 h3, b, h3]; rfl
  · rw [key 2 h3, c, h3]; rfl

theorem holds_arcs {w : World} {B g c : Nat} {T : List Arc3} (h : OwnA w B (.slice (some ⟨g, 0, none⟩) T.length c) T) : HoldsK enc3 3 w g 0 T.toArray := by
  unfold HoldsK
  rw [flat_arcs]
  intro j hj
  have hj' : j < (cs3 T).length := by simpa using hj
  have h' : w.ownsRow B 34 3 (.slice (some ⟨g, 0, none⟩) T.length c) T.length (cs3 T) := h
  refine ⟨?_, by rw [Nat.zero_add]; exact World.ownsRow.frozenAt h' j⟩
  rw [Nat.zero_add, World.ownsRow.cellAt h' j (by rw [cs3_length] at hj'; exact hj'), getElem!_pos _ j hj]
  simp [hj']

theorem sorted_own {w : World} {B g c : Nat} {T T' : List Arc3} (h : OwnA w B (.slice (some ⟨g, 0, none⟩) T.length c) T) (hl : T'.length = T.length) (m : Nat) (os : Array Obj) :
    OwnA (sortWorldK enc3 3 w g 0 m T'.toArray os) B (.slice (some ⟨g, 0, none⟩) T.length c) T' ∧ w.grownBy (sortWorldK enc3 3 w g 0 m T'.toArray os) (some g) := by
  have h' : w.ownsRow B 34 3 (.slice (some ⟨g, 0, none⟩) T.length c) T.length (cs3 T) := h
  have hother : w.grownBy (sortWorldK enc3 3 w g 0 m T'.toArray os) (some g) := by
    refine ⟨rfl, rfl, rfl, ?_, fun i hi hne => ?_⟩
    · unfold sortWorldK
      rw [size_grow, size_putRowK]
      exact Nat.le_add_right _ _
    · have hne' : g ≠ i := fun e => hne (by rw [e])
      have hsz : i < (putRowK enc3 3 (Sort.ahead w m) g 0 T'.toArray).heap.size := by rw [size_putRowK]; exact hi
      unfold sortWorldK
      rw [heap_grow_old _ _ hsz]
      simp [putRowK, putRow, mapBlock, Sort.ahead, Array.getElem?_modify, hne']
  refine ⟨⟨by rw [cs3_length], ?_⟩, hother⟩
  rcases h'.2 with ⟨e, h0⟩ | ⟨g', cap, cur, e, hB, hg, hnc, hcm, hcs, htake⟩
  · injection e with e1 e2 e3
    cases e1
  · injection e with e1 e2 e3
    injection e1 with e1
    injection e1 with e1
    subst e1
    have hlt : g < w.heap.size := (Array.getElem?_eq_some_iff.1 hg).1
    have hsz : g < (putRowK enc3 3 (Sort.ahead w m) g 0 T'.toArray).heap.size := by rw [size_putRowK]; exact hlt
    refine .inr ⟨g, cap, putCells id 0 (flatK enc3 3 T'.toArray) cur, by rw [hl, e3], hB, ?_, by rw [hl]; exact hnc, hcm, by simp [putCells, hcs], ?_⟩
    · unfold sortWorldK
      rw [heap_grow_old _ _ hsz]
      simp [putRowK, putRow, mapBlock, Sort.ahead, Array.getElem?_modify, hg, onCells]
    · rw [flat_arcs]
      refine List.ext_getElem (by simp [putCells, hcs, cs3_length]; omega) fun i h1 h2 => ?_
      have hi : i < (cs3 T').length := h2
      simp [putCells, hi]

set_option maxHeartbeats 1000000 in
/-- The sort of arcs that are turned. -/
theorem sort_arcs (L T : List Arc3) (hs : L.Pairwise AheadP) (hT : T = L.map turnA) (B : Nat) (v : Value) (w : World) (hm : T.length ≤ 1048576) (h : OwnA w B v T) :
    Calls Try.prog 95 #[v, .func (.func 94) #[] #[]] w fun e w' => e = .returned (.tuple #[]) ∧ OwnA w' B v (revL L) ∧ w.grownBy w' v.ownBlock := by
  have h' : w.ownsRow B 34 3 v T.length (cs3 T) := h
  have hrl : (revL L).length = T.length := by rw [revL_len hs, hT, List.length_map]
  rcases h'.2 with ⟨rfl, h0⟩ | ⟨g, cap, cur, rfl, hB, hg, hnc, hcm, hcs, htake⟩
  · have hcon := AnyF.slices_SortFunc_none { sortArcs with } none 0 (.func (.func 94) #[] #[]) w
    change Calls Try.prog 95 _ _ _ at hcon
    refine hcon.mono ?_
    rintro e w' ⟨rfl, rfl⟩
    have e0 : revL L = [] := List.eq_nil_of_length_eq_zero (by omega)
    exact ⟨rfl, by rw [e0]; exact OwnA.nil_ _ _, World.grownBy.refl _ _⟩
  · have eg : ∀ args w, (callFunc 94 args).run Try.prog w = .ok (.enter 94 args) w := enters_of Try.func94 (by kernel_rfl) rfl
    have hcon := AnyQ.slices_SortFunc sortArcs 3 Try.isAgg34 Try.sizeOf34 enc3 (fun _ => rfl) (fun x v hv => by simp [enc3] at hv; rcases hv with rfl | rfl | rfl <;> rfl) endsC swo_ends 94 #[] g 0 cap T.toArray w eg (cmp_lays g 0 _ w) (holds_arcs h) (Array.getElem?_eq_some_iff.1 hg).1 (by simp; omega)
    change Calls Try.prog 95 _ _ _ at hcon
    refine hcon.mono ?_
    rintro e w' ⟨rfl, d', n, os, hp, hso, rfl⟩
    have e' : d' = (revL L).toArray := by
      have := sorted_turned hs (d := T.toArray) (by simpa using hT) hp hso
      rw [← this]
    rw [e']
    obtain ⟨o1, o2⟩ := sorted_own h hrl n os
    exact ⟨rfl, o1, o2⟩

end Go.Proofs.Ytpbgnidjgmmebaa

set_option linter.unusedSimpArgs false
set_option linter.unusedVariables false
namespace Go.Proofs.Ytpbgnidjgmmebaa
open Go.RowKit

set_option maxRecDepth 100000 in
set_option maxHeartbeats 4000000 in
theorem implTurned_any (N : Int) (A : Option Addr) (n c : Nat) (L : List Arc3) (hn : n = L.length) (w : World) (hm : n ≤ 1048576) (hs : L.Pairwise AheadP) (H1 : ArcsAt w w.heap.size A L) :
    Calls Try.prog 67 #[.agg #[.int .i64 N, .slice A n c]] w (GraphMade1 N (revL L) w) := by
  obtain ⟨i0, hi, hz0, hz1, hz2⟩ := info_parts infoArc
  have I0 := Lib.hid hi
  have I1 := Lib.hid hz0
  have I2 := Lib.hid hz1
  have I3 := Lib.hid hz2
  have K1 := Lib.hid H1
  have HN := Lib.hid hn
  have HP := Lib.hid hs
  clear H1 hn hi hz0 hz1 hz2 hs
  go_enter Try.func67, Try.ntmps67
  have T0 := Lib.hid (show TS w (.cells #[.int .i64 N, .slice A n c] 26) (w.heap.size + 1) (w.heap.size + 1 + 1) N (.slice none 0 0) [] (((w.alloc (.cells #[.int .i64 N, .slice A n c] 26)).alloc (.cells #[.int .i64 0, .slice none 0 0] 26)).alloc (.cells #[.int .i64 N, .slice none 0 0] 26)) from by
    refine ⟨?_, ?_, OwnA.nil_ _ _, ?_, by omega, by omega⟩
    · have := Two.new ((w.alloc (.cells #[.int .i64 N, .slice A n c] 26)).alloc (.cells #[.int .i64 0, .slice none 0 0] 26)) (.int .i64 N) (.slice none 0 0)
      simpa only [World.size_alloc] using this
    · have := (Two.new (w.alloc (.cells #[.int .i64 N, .slice A n c] 26)) (.int .i64 0) (.slice none 0 0)).bl (Bl.alloc_ (Bl.refl _) (.cells #[.int .i64 N, .slice none 0 0] 26))
      simpa only [World.size_alloc] using this
    · exact ((Bl.refl _).alloc_ _).alloc_ _)
  obtain ⟨y0, y1⟩ := box2 T0.out.bl
  go_wp2_with fail
  clear y0 y1
  go_loopw [12] (fun i wr => ∃ (k : Nat) (q : Value), k ≤ n ∧ i = .int .i64 k ∧ TS w (.cells #[.int .i64 N, .slice A n c] 26) (w.heap.size + 1) (w.heap.size + 1 + 1) N q (turnK L k) wr) (fun i _ => n - (intOf i).toNat)
  case atStart => exact ⟨0, _, by omega, rfl, T0.out⟩
  case round =>
    obtain ⟨k, q, hk, rfl, hT⟩ := hrel
    obtain ⟨c0, c1, f0, f1⟩ := hT.box.facts
    obtain ⟨AQ, cq, rfl, hAQ, -⟩ := hT.own.shape
    have T := Lib.hid hT
    have hbw : Bl w wr := (Bl.alloc_ (Bl.refl w) _).trans_ hT.bl
    have hlt' := World.rowIs.lt hT.box
    clear hT hAQ T0
    by_cases hlt : k < n
    · have hkl : k < L.length := by have := HN.out; omega
      obtain ⟨g1, o1, rfl, hg1, hc1⟩ := K1.out (by omega)
      obtain ⟨p1, p2, p3⟩ := hc1 k hkl
      clear hc1
      rw [← (bcell hbw).1 _ _ hg1] at p1 p2 p3
      have TK := Lib.hid (turnK_succ hkl)
      have hlen := turnK_len L k
      generalize hx : L[k].1 = x at p1
      generalize hy : L[k].2.1 = y at p2
      generalize hz : L[k].2.2 = z at p3
      have HE := Lib.hid (show turnA L[k] = (y, x, z) from by unfold turnA; rw [hx, hy, hz])
      clear hx hy hz hbw
      obtain ⟨l, hl⟩ : ∃ l, l = (turnK L k).length := ⟨_, rfl⟩
      rw [← hl] at hlen c1 T
      have HL := Lib.hid hl
      clear hl
      have u1 : (0 : Int) ≤ (k : Int) := by omega
      have u2 : (k : Int) < (n : Int) := by omega
      have T2 := Lib.hid (T.out.bl_ (show Bl wr ((wr.alloc (.cells #[.int .i64 x, .int .i64 y, .int .i64 z] 34)).alloc (.cells #[.int .i64 y, .int .i64 x, .int .i64 z] 34)) from (by repeat' (first | exact Bl.refl _ | with_reducible assumption | with_reducible refine Bl.drew_ ?_ | with_reducible refine Bl.drewN_ ?_ _ | with_reducible refine Bl.alloc_ ?_ _ | with_reducible refine Bl.trans_ ?_ (by assumption) | with_reducible refine Bl.trans_ ?_ (And.left (by assumption))))))
      go_wp2_with (at_builtin; refine wpList_append_own _ rfl (.tmp 17) (.tmp 25) _ rfl ((w.heap.size + 1 + 1) + 1) 34 i0 _ 3 24 Try.underlying24 I0.out I1.out I2.out I3.out rfl (by decide) _ l (cs3 (turnK L k)) rfl ?c0 ⟨wr.heap.size + 1, 0, none⟩ 1 1 [.int .i64 y, .int .i64 x, .int .i64 z] rfl rfl ?c1 (one3 _ _ _) ?c3 ?c4 ?c5 ?_)
      case c0 => have := T2.out.own; rw [HL.out] at this ⊢; exact this
      case c1 => have := new3 (wr.alloc (.cells #[.int .i64 x, .int .i64 y, .int .i64 z] 34)) (.int .i64 y) (.int .i64 x) (.int .i64 z) 34; simpa using this
      case c3 => unfold maxLen; omega
      case c4 => omega
      case c5 => simp; omega
      intro v2 w2 hown2 hg2 _
      have O2 := Lib.hid (show OwnA w2 ((w.heap.size + 1 + 1) + 1) v2 (turnK L (k + 1)) from by
        rw [TK.out, HE.out]
        exact own_snoc (a := (y, x, z)) (by rw [← HL.out]; exact hown2))
      have G2 := Lib.hid hg2
      clear hown2 hg2
      have U := Lib.hid (T2.out.app G2.out O2.out)
      obtain ⟨b0, -, -⟩ := T2.out.grown_ G2.out O2.out
      obtain ⟨A2, c2, rfl, -, -⟩ := O2.out.shape
      obtain ⟨d0, d1, k0, k1⟩ := b0.facts
      clear b0 c0 c1 f0 f1
      go_wp2
      go_roundw
      case rel => exact ⟨k + 1, _, by omega, by go_num, U.out⟩
      case measure => simp [intOf]; omega
    · obtain rfl : k = n := by omega
      have TA := Lib.hid (show turnK L k = L.map turnA from by rw [HN.out]; exact turnK_all L)
      have hlen := turnK_len L k
      go_wp2_with fail
      refine (sort_arcs L (turnK L k) HP.out TA.out ((w.heap.size + 1 + 1) + 1) _ _ (by omega) T.out.own).mono ?_
      rintro e w2 ⟨rfl, ho, hg⟩
      have U := Lib.hid (T.out.same hg ho)
      clear ho hg c0 c1 f0 f1
      obtain ⟨c0, c1, f0, f1⟩ := U.out.box.facts
      obtain ⟨r0, r1, fr0, fr1⟩ := U.out.res.facts
      go_wp2
      refine bodyPost_ret (v := .agg #[.int .i64 N, .slice AQ (turnK L k).length cq]) (by simp [results, Try.results67, go_sem, r0, r1, fr0, fr1]) rfl ?_
      have := U.out.fin (.int .i64 N) (.slice AQ (turnK L k).length cq)
      exact ⟨_, rfl, this.1, this.2⟩

set_option maxHeartbeats 1000000 in
theorem implReversed_any (N : Int) (A : Option Addr) (n c : Nat) (L : List Arc3) (hn : n = L.length) (w : World) (hm : n ≤ 1048576) (H1 : ArcsAt w w.heap.size A L) :
    Calls Try.prog 23 #[.agg #[.int .i64 N, .slice A n c]] w (GraphMade1 (revN N L) (revG N L) w) := by
  have K1 := Lib.hid H1
  have HN := Lib.hid hn
  clear H1 hn
  cases ho : okB N L with
  | false =>
    have HO := Lib.hid ho
    clear ho
    go_enter Try.func23, Try.ntmps23
    go_wp2_with fail
    refine (implOk_any N A n c L HN.out _ (by omega) (K1.out.bl (by repeat' (first | exact Bl.refl _ | with_reducible assumption | with_reducible refine Bl.drew_ ?_ | with_reducible refine Bl.drewN_ ?_ _ | with_reducible refine Bl.alloc_ ?_ _ | with_reducible refine Bl.trans_ ?_ (by assumption) | with_reducible refine Bl.trans_ ?_ (And.left (by assumption)))))).mono ?_
    rintro e w1 ⟨rfl, hb1⟩
    rw [HO.out]
    obtain ⟨h00, h01, h10, h11, f10, f11, hsz⟩ := box22 hb1
    go_wp2
    refine bodyPost_ret (v := .agg #[.int .i64 0, .slice none 0 0]) (by simp [results, Try.results23, go_sem, h10, h11, f10, f11]) rfl ?_
    refine ⟨.slice none 0 0, by unfold revN; rw [HO.out]; rfl, by unfold revG; rw [HO.out, if_neg (by simp)]; exact OwnA.nil_ _ _, ?_⟩
    exact Bl.set_ (Bl.set_ ((Bl.alloc_ (Bl.alloc_ (Bl.refl w) _) _).trans_ hb1) (Nat.le_succ _) _) (Nat.le_succ _) _
  | true =>
    have HO := Lib.hid ho
    have HP := Lib.hid (okB_elim ho).2.2.2.2
    clear ho
    go_enter Try.func23, Try.ntmps23
    go_wp2_with fail
    refine (implOk_any N A n c L HN.out _ (by omega) (K1.out.bl (by repeat' (first | exact Bl.refl _ | with_reducible assumption | with_reducible refine Bl.drew_ ?_ | with_reducible refine Bl.drewN_ ?_ _ | with_reducible refine Bl.alloc_ ?_ _ | with_reducible refine Bl.trans_ ?_ (by assumption) | with_reducible refine Bl.trans_ ?_ (And.left (by assumption)))))).mono ?_
    rintro e w1 ⟨rfl, hb1⟩
    rw [HO.out]
    obtain ⟨h00, h01, h10, h11, f10, f11, hsz⟩ := box22 hb1
    have BW := Lib.hid (show Bl w w1 from (Bl.alloc_ (Bl.alloc_ (Bl.refl w) _) _).trans_ hb1)
    have B1 := Lib.hid hb1
    clear h10 h11 f10 f11
    go_wp2_with fail
    refine (implTurned_any N A n c L HN.out _ hm HP.out (K1.out.bl BW.out)).mono ?_
    rintro e w2 ⟨q, rfl, hq, hb2⟩
    obtain ⟨Aq, cq, rfl, -⟩ := hq.shape
    have Q := Lib.hid hq
    have B2 := Lib.hid hb2
    obtain ⟨g00, g01, g10, g11, k10, k11, gsz⟩ := box22 (B1.out.trans_ hb2)
    clear hq hb2 h00 h01 g00 g01 hb1
    go_wp2
    refine bodyPost_ret (v := .agg #[.int .i64 N, .slice Aq (revL L).length cq]) (by simp [results, Try.results23, go_sem, g10, g11, k10, k11]) rfl ?_
    have hne : ∀ g, (Value.slice Aq (revL L).length cq).ownBlock = some g → g ≠ w.heap.size + 1 := fun g hg => by have := (Owns.lt Q.out g hg).1; omega
    refine ⟨_, by unfold revN; rw [HO.out]; rfl, ?_, ?_⟩
    · unfold revG
      rw [HO.out, if_pos rfl]
      exact OwnA.low (Owns.setOther (Owns.setOther Q.out (p := ⟨w.heap.size + 1, 0, none⟩) hne _) (p := ⟨w.heap.size + 1, 1, none⟩) hne _) (by have := BW.out.size; omega)
    · exact Bl.set_ (Bl.set_ (BW.out.trans_ B2.out) (Nat.le_succ _) _) (Nat.le_succ _) _

end Go.Proofs.Ytpbgnidjgmmebaa

set_option linter.unusedSimpArgs false
set_option linter.unusedVariables false
namespace Go.Proofs.Ytpbgnidjgmmebaa
open Go.RowKit

/-- What a range over a function leaves among the deferred calls. -/
def markD (D : Nat) : Deferred := { target := .collected D, args := #[] }
structure MarksD (ds : List Deferred) (Ds : List Nat) (w : World) : Prop where
  eq : ds = Ds.map markD
  nodup : Ds.Nodup
  here : ∀ D ∈ Ds, w.heap[D]? = some (.deferred (some []))
theorem MarksD.nil_ (w : World) : MarksD [] [] w := ⟨rfl, by simp, by simp⟩
theorem MarksD.lt {ds : List Deferred} {Ds : List Nat} {w : World} (h : MarksD ds Ds w) : ∀ D ∈ Ds, D < w.heap.size := fun D hD => (Array.getElem?_eq_some_iff.1 (h.here D hD)).1
theorem MarksD.turn {ds : List Deferred} {Ds : List Nat} {w w' : World} {S : Nat → Prop} (h : MarksD ds Ds w) (t : Turn S w w') (hS : ∀ D ∈ Ds, ¬ S D) : MarksD ds Ds w' :=
  ⟨h.eq, h.nodup, fun D hD => (t.block D (h.lt D hD) (hS D hD)).trans (h.here D hD)⟩
theorem MarksD.bl {ds : List Deferred} {Ds : List Nat} {w w' : World} (h : MarksD ds Ds w) (t : Bl w w') : MarksD ds Ds w' := h.turn (Turn.of_bl (S := fun _ => False) t) (fun _ _ h => h)
theorem MarksD.cons {ds : List Deferred} {Ds : List Nat} {w : World} {D : Nat} (h : MarksD ds Ds w) (hD : w.heap[D]? = some (.deferred (some []))) (hn : D ∉ Ds) : MarksD ({ target := .collected D, args := #[] } :: ds) (D :: Ds) w :=
  ⟨by rw [h.eq]; rfl, List.nodup_cons.2 ⟨hn, h.nodup⟩, fun E hE => by
    rcases List.mem_cons.1 hE with rfl | hE
    · exact hD
    · exact h.here E hE⟩

theorem leaves_marks {F : Fence} {n : Nat} {P : Program} {fn : Func} {tmps : Array Value} {R : Ending → World → Prop} : ∀ (Ds : List Nat) (ds : List Deferred) (w : World), MarksD ds Ds w →
    (∀ w', Turn (fun i => i ∈ Ds) w w' → LeavesIn F n P fn tmps R [] .returning w') → LeavesInM F n P fn tmps R ds .returning w
  | [], ds, w, h, hR => by
    obtain rfl : ds = [] := h.eq
    exact hR w (Turn.refl _ _)
  | D :: Ds, ds, w, h, hR => by
    obtain rfl : ds = markD D :: Ds.map markD := h.eq
    obtain ⟨hn, hnd⟩ := List.nodup_cons.1 h.nodup
    have hD := h.here D (by simp)
    have t : Turn (fun i => i = D) w (w.putObj D (.deferred none)) := turn_put (fun i => i = D) _ (.deferred none) rfl
    have h' : MarksD (Ds.map markD) Ds w := ⟨rfl, hnd, fun E hE => h.here E (List.mem_cons_of_mem _ hE)⟩
    refine ⟨by simp, .inl ⟨D, _, rfl, run_takeDeferred hD, ?_⟩⟩
    refine leaves_marks Ds _ _ (h'.turn t (fun E hE e => hn (by rw [← e]; exact hE))) fun w' t' => hR w' ?_
    exact (t.more fun i _ e => by rw [e]; simp).trans (t'.more fun i _ e => List.mem_cons_of_mem _ e) (fun i _ e => e)

end Go.Proofs.Ytpbgnidjgmmebaa
