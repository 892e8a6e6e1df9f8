/-
  What is proved here: graphs and nodes that are drawn by a code; the laws' small functions that hold lists and graphs against each other, and ask for nodes; the laws' small function that asks whether a number is in a list; graphs and two nodes that are drawn by a code for OnShortest; spec.Reversed turns the arcs of a right graph and puts them in order, as the model does; plain facts on distances there and back: by way of a third node it is no nearer; nodes by way of which it is at most so far; lengths of paths; bounds of weights; the nodes by way of which it is at most so far, as the model tells them; What is stated here: of which functions and types of the program the library's sort of structs is made. No conditions; slices.SortFunc over arcs of which no two have the same ends puts them in order; impl.Reversed turns the arcs of a right graph and sorts them; the iterator over the nodes by way of which one comes from one node to another tells just these, rising; impl.within tells the nodes by way of which it is at most so far; impl.OnShortest and impl.Between answer as the plain lists of nodes say; plain facts on weights, on the nearest way over an arc, and on the arcs of all nodes, one behind the other; plain facts on the first arc by way of which it is no farther, and on paths that are gone step by step; plain facts on the first of the shortest paths, and on nodes by way of which it is at most so far; What is stated here: of which functions and types of the program the library's search for the first one is made. No conditions; the arcs that leave a node, as the code gathers them; impl.nextNode tells the least node by way of which it is no farther; impl.PathOf tells the first of the shortest paths; the walk of the law FnOnShortest: at every code that can be read it returns true and leaves what was there as it was. No conditions beyond those that each theorem states.
-/
import Derived.Test.YtdbjcojlcddhdaaH4
import Derived.Test.YtdbjcojlcddhdaaRB
import Derived.Test.YtdbjcojlcddhdaaNS2
import Derived.Test.YtdbjcojlcddhdaaTW
import Derived.Test.YtdbjcojlcddhdaaNF4
import Derived.Shelf.SlLaysF0
import Derived.Shelf.SlGeneric
import Derived.Test.YtdbjcojlcddhdaaProg
import Derived.Test.YtdbjcojlcddhdaaPR
import Derived.Shelf.SlSortCmp.NoneTotal
import Derived.Test.YtdbjcojlcddhdaaNF3
import Derived.Test.YtdbjcojlcddhdaaNS1
import Derived.Lib.SlBy
import Derived.Shelf.SlicesQ.IndexFunc
import Derived.Test.YtdbjcojlcddhdaaG1
import Derived.Test.YtdbjcojlcddhdaaX1
import Derived.Test.YtdbjcojlcddhdaaK1
set_option linter.unusedSimpArgs false
set_option linter.unusedVariables false
namespace Go.Proofs.Ytdbjcojlcddhdaa
open Go.RowKit

theorem BytesAt.lt' {w : World} {A : Option Addr} {n : Nat} (h : BytesAt w A n) : 0 < n → ∀ g off, A = some ⟨g, off, none⟩ → g < w.heap.size := fun h0 g off e => by
  obtain ⟨g', off', e', hlt, -⟩ := h h0
  rw [e] at e'
  injection e' with e'
  injection e' with e1
  omega
/-- A graph and a node that are drawn by a code. -/
def DrawnG1 (w : World) (e : Ending) (w' : World) : Prop :=
  ∃ (N : Int) (A' : Option Addr) (l c' : Nat) (L : List Arc3) (s : Int), e = .returned (.tuple #[.agg #[.int .i64 N, .slice A' l c'], .int .i64 s]) ∧ Drawn w.heap.size w' N A' l c' L ∧ In64 s ∧ Bl w w'
def DrawnG2 (w : World) (e : Ending) (w' : World) : Prop :=
  ∃ (N : Int) (A' : Option Addr) (l c' : Nat) (L : List Arc3) (s t : Int), e = .returned (.tuple #[.agg #[.int .i64 N, .slice A' l c'], .int .i64 s, .int .i64 t]) ∧ Drawn w.heap.size w' N A' l c' L ∧ In64 s ∧ In64 t ∧ Bl w w'
theorem Drawn.far {B : Nat} {w w' : World} {N : Int} {A' : Option Addr} {l c' : Nat} {L : List Arc3} (h : Drawn B w N A' l c' L) {rd : Nat} (hg : w.grownBy w' (some rd)) (hr : rd < B) : Drawn B w' N A' l c' L :=
  ⟨h.1, h.2.1, h.2.2.1, h.2.2.2.grown_ hg (fun g e => by injection e with e; omega)⟩
theorem Drawn.low {B B' : Nat} {w : World} {N : Int} {A' : Option Addr} {l c' : Nat} {L : List Arc3} (h : Drawn B w N A' l c' L) (hB : B' ≤ B) : Drawn B' w N A' l c' L :=
  ⟨h.1, h.2.1, h.2.2.1, h.2.2.2.low hB⟩
theorem Drawn.bl {B : Nat} {w w' : World} {N : Int} {A' : Option Addr} {l c' : Nat} {L : List Arc3} (h : Drawn B w N A' l c' L) (hb : Bl w w') : Drawn B w' N A' l c' L :=
  ⟨h.1, h.2.1, h.2.2.1, OwnA.bl h.2.2.2 hb⟩
theorem Drawn.arcs {B : Nat} {w : World} {N : Int} {A' : Option Addr} {l c' : Nat} {L : List Arc3} (h : Drawn B w N A' l c' L) : ArcsAt w w.heap.size A' L ∧ l ≤ c' := by
  obtain ⟨h1, h2, h3, h4⟩ := h
  obtain ⟨AA, cc, e, ha, -⟩ := h4.shape
  injection e with e1 e2 e3
  refine ⟨by rw [e1]; exact ha, ?_⟩
  have h' : w.ownsRow B 51 3 (.slice A' l c') L.length (cs3 L) := h4
  rcases h'.2 with ⟨e, h0⟩ | ⟨g, cap, cur, e, hB, hg, hnc, -⟩
  · injection e with e1 e2 e3
    omega
  · injection e with e1 e2 e3
    omega

set_option maxRecDepth 100000 in
set_option maxHeartbeats 1000000 in
theorem drawDistFrom_any (A : Option Addr) (n c : Nat) (w : World) (hn : n ≤ 1099511627776) (H : BytesAt w A n) :
    Calls Try.prog 42 #[.slice A n c] w (DrawnG1 w) := by
  have K := Lib.hid H
  clear H
  go_enter Try.func42, Try.ntmps42
  go_wp2_with fail
  refine (open_any A n c _ (K.out.bl (by repeat' (first | exact Bl.refl _ | with_reducible assumption | with_reducible refine Bl.drew_ ?_ | with_reducible refine Bl.drewN_ ?_ _ | with_reducible refine Bl.alloc_ ?_ _ | with_reducible refine Bl.trans_ ?_ (by assumption) | with_reducible refine Bl.trans_ ?_ (And.left (by assumption)))))).mono ?_
  rintro e w1 ⟨rfl, hr, hb, hlt⟩
  have R1 := Lib.hid (show RdAny w1 (w.heap.size + 1) A n c from by rw [World.size_alloc] at hr; exact hr)
  have B1 := Lib.hid hb
  have s1 := hb.size
  simp only [World.size_alloc] at s1 hlt
  clear hr hb
  go_wp2_with fail
  refine (graph_any 10 (w.heap.size + 1) A n c _ hn (by omega) (by omega) R1.out (fun h0 g off e => by have := K.out.lt' h0 g off e; omega)).mono ?_
  rintro e w2 ⟨N, A', l, c', L, rfl, hd, hr, hg⟩
  have D2 := Lib.hid hd
  have R2 := Lib.hid hr
  have G2 := Lib.hid hg
  have hN := hd.2.2.1
  have s2 := hg.size
  clear hd hr hg
  have B2 := Lib.hid (show Bl (w.alloc (.cells #[.int .i64 0, .slice none 0 0] 26)) w2 from B1.out.grown_ G2.out (fun g e => by injection e with e; simp; omega))
  have R3 := Lib.hid (R2.out.bl (Bl.alloc_ (Bl.refl w2) (.cells #[.int .i64 N, .slice A' l c'] 26)))
  have HSH := Lib.hid (show ∀ wx, (w2.alloc (.cells #[.int .i64 N, .slice A' l c'] 26)).grownBy wx (some (w.heap.size + 1)) → (w2.alloc (.cells #[.int .i64 N, .slice A' l c'] 26)).grownBy wx (some (w.heap.size + 1)) ∧ wx.cell? ⟨w2.heap.size, 0, none⟩ = some (.int .i64 N) ∧ wx.cell? ⟨w2.heap.size, 1, none⟩ = some (.slice A' l c') from fun wx h =>
    ⟨h, h.cell (by simp [go_sem]) (by simp; omega), h.cell (by simp [go_sem]) (by simp; omega)⟩)
  have hN0 := hN.1
  have hN1 := hN.2
  have RES := Lib.hid (show Two (w2.alloc (.cells #[.int .i64 N, .slice A' l c'] 26)) w.heap.size (.int .i64 0) (.slice none 0 0) from ((Two.new w _ _).bl B2.out).bl (Bl.alloc_ (Bl.refl _) _))
  have nb : w2.heap.size ≠ w.heap.size := by omega
  have nb' : w.heap.size ≠ w2.heap.size := by omega
  go_wp2_with fail
  refine wp_region_held_drew (S := fun wx => wx.cell? ⟨w2.heap.size, 0, none⟩ = some (.int .i64 N) ∧ wx.cell? ⟨w2.heap.size, 1, none⟩ = some (.slice A' l c')) (by kernel_rfl) ?_ (fun hHeld => ?_)
  · (first | exact (HSH.out _ hGG).2 | (refine ⟨?_, ?_⟩ <;> (simp [go_sem, nb, nb', *]; done)))
  refine wpAnyH_take (i := 0) (v := ?_) rfl (by kernel_rfl) (by kernel_rfl) (by kernel_rfl) (fun _ _ _ h => h) (Or.inl ⟨by kernel_rfl, ?_⟩) (by assumption) ?_
  rotate_left
  · (intro wx hSw; (try dsimp only at hSw); go_simp; try (with_reducible rfl))
  try simp only [Act.put, List.getElem_toArray, List.getElem_cons_succ, List.getElem_cons_zero, List.setIfInBounds_toArray, List.set_cons_zero, List.set_cons_succ]
  refine wpAnyH_take (i := 1) (v := ?_) rfl (by kernel_rfl) (by kernel_rfl) (by kernel_rfl) (fun _ _ _ h => h) (Or.inl ⟨by kernel_rfl, ?_⟩) (by assumption) ?_
  rotate_left
  · (intro wx hSw; (try dsimp only at hSw); go_simp; try (with_reducible rfl))
  try simp only [Act.put, List.getElem_toArray, List.getElem_cons_succ, List.getElem_cons_zero, List.setIfInBounds_toArray, List.set_cons_zero, List.set_cons_succ]
  refine wpAnyH_take (i := 2) (v := ?_) rfl (by kernel_rfl) (by kernel_rfl) (by kernel_rfl) (fun _ _ _ h => h) (Or.inl ⟨by kernel_rfl, ?_⟩) (by assumption) ?_
  rotate_left
  · (intro wx hSw; (try dsimp only at hSw); go_simp; try (with_reducible rfl))
  try simp only [Act.put, List.getElem_toArray, List.getElem_cons_succ, List.getElem_cons_zero, List.setIfInBounds_toArray, List.set_cons_zero, List.set_cons_succ]
  refine wpAnyH_ready (rs := [3]) (by kernel_rfl) (by simp) ?_
  refine AllReadyH.cons rfl (fun K hK => ?_) AllReadyH.nil
  go_simp
  (go_at_call 62; refine (node_any N _ (w.heap.size + 1) A n c _ hn hN0 hN1 (R3.out.bl (by repeat' (first | exact Bl.refl _ | with_reducible assumption | with_reducible refine Bl.drew_ ?_ | with_reducible refine Bl.drewN_ ?_ _ | with_reducible refine Bl.alloc_ ?_ _ | with_reducible refine Bl.trans_ ?_ (by assumption) | with_reducible refine Bl.trans_ ?_ (And.left (by assumption)))))).mono ?_; rintro e w3 ⟨x, hx, rfl, hr, hg⟩; have hGG := grown_trans (bl_grown (show Bl (w2.alloc (.cells #[.int .i64 N, .slice A' l c'] 26)) _ from (by repeat' (first | exact Bl.refl _ | with_reducible assumption | with_reducible refine Bl.drew_ ?_ | with_reducible refine Bl.drewN_ ?_ _ | with_reducible refine Bl.alloc_ ?_ _ | with_reducible refine Bl.trans_ ?_ (by assumption) | with_reducible refine Bl.trans_ ?_ (And.left (by assumption))))) _) hg; obtain ⟨r0, r1, fr0, fr1⟩ := Two.facts ((RES.out).grown_ hGG (by simp)))
  try (go_wp2_with fail)
  refine hK.out _ _ ?_ (fun hHeld => ?_)
  · (first | exact (HSH.out _ hGG).2 | (refine ⟨?_, ?_⟩ <;> (simp [go_sem, nb, nb', *]; done)))
  clear hK K
  try simp only [Act.put, List.getElem_toArray, List.getElem_cons_succ, List.getElem_cons_zero, List.setIfInBounds_toArray, List.set_cons_zero, List.set_cons_succ]
  refine wpAnyH_ready (rs := [4]) (by kernel_rfl) (by simp) ?_
  refine AllReadyH.cons rfl (fun K hK => ?_) AllReadyH.nil
  go_simp
  refine hK.out _ _ ?_ (fun hHeld => ?_)
  · (first | exact (HSH.out _ hGG).2 | (refine ⟨?_, ?_⟩ <;> (simp [go_sem, nb, nb', *]; done)))
  clear hK K
  try simp only [Act.put, List.getElem_toArray, List.getElem_cons_succ, List.getElem_cons_zero, List.setIfInBounds_toArray, List.set_cons_zero, List.set_cons_succ]
  refine wpAnyH_take (i := 5) (v := ?_) rfl (by kernel_rfl) (by kernel_rfl) (by kernel_rfl) (fun _ _ _ h => h) (Or.inl ⟨by kernel_rfl, ?_⟩) (by assumption) ?_
  rotate_left
  · (intro wx hSw; (try dsimp only at hSw); go_simp; try (with_reducible rfl))
  try simp only [Act.put, List.getElem_toArray, List.getElem_cons_succ, List.getElem_cons_zero, List.setIfInBounds_toArray, List.set_cons_zero, List.set_cons_succ]
  refine wpAnyH_done (by kernel_rfl) ?_ _
  go_wp2
  refine bodyPost_ret (v := .tuple #[.agg #[.int .i64 N, .slice A' l c'], .int .i64 x]) (by simp [results, Try.results42, go_sem, r0, r1, fr0, fr1]) rfl ?_
  have D3 := (D2.out.bl (Bl.alloc_ (Bl.refl w2) (.cells #[.int .i64 N, .slice A' l c'] 26))).far hGG (by omega)
  have B3 : Bl w w3 := ((((Bl.alloc_ (Bl.refl w) _).trans_ B2.out).alloc_ (.cells #[.int .i64 N, .slice A' l c'] 26)).grown_ hGG (fun g e => by injection e with e; omega))
  exact ⟨N, A', l, c', L, x, rfl, ⟨D3.1, D3.2.1, D3.2.2.1, ((D3.2.2.2.set_ (by show w.heap.size < w1.heap.size; omega) _).set_ (by show w.heap.size < w1.heap.size; omega) _).low (by omega)⟩, hx, (B3.set_ (Nat.le_refl _) _).set_ (Nat.le_refl _) _⟩

-- (drawOuts_any left out)

set_option maxRecDepth 100000 in
set_option maxHeartbeats 1000000 in
theorem drawDistOf_any (A : Option Addr) (n c : Nat) (w : World) (hn : n ≤ 1099511627776) (H : BytesAt w A n) :
    Calls Try.prog 74 #[.slice A n c] w (DrawnG2 w) := by
  have K := Lib.hid H
  clear H
  go_enter Try.func74, Try.ntmps74
  go_wp2_with fail
  refine (open_any A n c _ (K.out.bl (by repeat' (first | exact Bl.refl _ | with_reducible assumption | with_reducible refine Bl.drew_ ?_ | with_reducible refine Bl.drewN_ ?_ _ | with_reducible refine Bl.alloc_ ?_ _ | with_reducible refine Bl.trans_ ?_ (by assumption) | with_reducible refine Bl.trans_ ?_ (And.left (by assumption)))))).mono ?_
  rintro e w1 ⟨rfl, hr, hb, hlt⟩
  have R1 := Lib.hid (show RdAny w1 (w.heap.size + 1) A n c from by rw [World.size_alloc] at hr; exact hr)
  have B1 := Lib.hid hb
  have s1 := hb.size
  simp only [World.size_alloc] at s1 hlt
  clear hr hb
  go_wp2_with fail
  refine (graph_any 10 (w.heap.size + 1) A n c _ hn (by omega) (by omega) R1.out (fun h0 g off e => by have := K.out.lt' h0 g off e; omega)).mono ?_
  rintro e w2 ⟨N, A', l, c', L, rfl, hd, hr, hg⟩
  have D2 := Lib.hid hd
  have R2 := Lib.hid hr
  have G2 := Lib.hid hg
  have hN := hd.2.2.1
  have s2 := hg.size
  clear hd hr hg
  have B2 := Lib.hid (show Bl (w.alloc (.cells #[.int .i64 0, .slice none 0 0] 26)) w2 from B1.out.grown_ G2.out (fun g e => by injection e with e; simp; omega))
  have R3 := Lib.hid (R2.out.bl (Bl.alloc_ (Bl.refl w2) (.cells #[.int .i64 N, .slice A' l c'] 26)))
  have HSH := Lib.hid (show ∀ wx, (w2.alloc (.cells #[.int .i64 N, .slice A' l c'] 26)).grownBy wx (some (w.heap.size + 1)) → (w2.alloc (.cells #[.int .i64 N, .slice A' l c'] 26)).grownBy wx (some (w.heap.size + 1)) ∧ wx.cell? ⟨w2.heap.size, 0, none⟩ = some (.int .i64 N) ∧ wx.cell? ⟨w2.heap.size, 1, none⟩ = some (.slice A' l c') from fun wx h =>
    ⟨h, h.cell (by simp [go_sem]) (by simp; omega), h.cell (by simp [go_sem]) (by simp; omega)⟩)
  have hN0 := hN.1
  have hN1 := hN.2
  have RES := Lib.hid (show Two (w2.alloc (.cells #[.int .i64 N, .slice A' l c'] 26)) w.heap.size (.int .i64 0) (.slice none 0 0) from ((Two.new w _ _).bl B2.out).bl (Bl.alloc_ (Bl.refl _) _))
  have nb : w2.heap.size ≠ w.heap.size := by omega
  have nb' : w.heap.size ≠ w2.heap.size := by omega
  go_wp2_with fail
  refine (node_any N _ (w.heap.size + 1) A n c _ hn hN0 hN1 R3.out).mono ?_
  rintro e w4 ⟨s, hs, rfl, hr4, hg4⟩
  have G4 := Lib.hid hg4
  have S4 := Lib.hid hs
  have R4 := Lib.hid hr4
  obtain ⟨y, y0, y1⟩ := HSH.out _ hg4
  have s4 := hg4.size
  simp only [World.size_alloc] at s4
  have RES4 := Lib.hid (RES.out.grown_ hg4 (by simp))
  clear hs hr4 hg4 y
  go_wp2_with fail
  refine wp_region_held_drew (S := fun wx => wx.cell? ⟨w2.heap.size, 0, none⟩ = some (.int .i64 N) ∧ wx.cell? ⟨w2.heap.size, 1, none⟩ = some (.slice A' l c')) (by kernel_rfl) ?_ (fun hHeld => ?_)
  · (first | exact (HSH.out _ hGG).2 | (refine ⟨?_, ?_⟩ <;> (simp [go_sem, nb, nb', *]; done)))
  refine wpAnyH_take (i := 0) (v := ?_) rfl (by kernel_rfl) (by kernel_rfl) (by kernel_rfl) (fun _ _ _ h => h) (Or.inl ⟨by kernel_rfl, ?_⟩) (by assumption) ?_
  rotate_left
  · (intro wx hSw; (try dsimp only at hSw); go_simp; try (with_reducible rfl))
  try simp only [Act.put, List.getElem_toArray, List.getElem_cons_succ, List.getElem_cons_zero, List.setIfInBounds_toArray, List.set_cons_zero, List.set_cons_succ]
  refine wpAnyH_take (i := 1) (v := ?_) rfl (by kernel_rfl) (by kernel_rfl) (by kernel_rfl) (fun _ _ _ h => h) (Or.inl ⟨by kernel_rfl, ?_⟩) (by assumption) ?_
  rotate_left
  · (intro wx hSw; (try dsimp only at hSw); go_simp; try (with_reducible rfl))
  try simp only [Act.put, List.getElem_toArray, List.getElem_cons_succ, List.getElem_cons_zero, List.setIfInBounds_toArray, List.set_cons_zero, List.set_cons_succ]
  refine wpAnyH_take (i := 2) (v := ?_) rfl (by kernel_rfl) (by kernel_rfl) (by kernel_rfl) (fun _ _ _ h => h) (Or.inl ⟨by kernel_rfl, ?_⟩) (by assumption) ?_
  rotate_left
  · (intro wx hSw; (try dsimp only at hSw); go_simp; try (with_reducible rfl))
  try simp only [Act.put, List.getElem_toArray, List.getElem_cons_succ, List.getElem_cons_zero, List.setIfInBounds_toArray, List.set_cons_zero, List.set_cons_succ]
  refine wpAnyH_take (i := 3) (v := ?_) rfl (by kernel_rfl) (by kernel_rfl) (by kernel_rfl) (fun _ _ _ h => h) (Or.inl ⟨by kernel_rfl, ?_⟩) (by assumption) ?_
  rotate_left
  · (intro wx hSw; (try dsimp only at hSw); go_simp; try (with_reducible rfl))
  try simp only [Act.put, List.getElem_toArray, List.getElem_cons_succ, List.getElem_cons_zero, List.setIfInBounds_toArray, List.set_cons_zero, List.set_cons_succ]
  refine wpAnyH_ready (rs := [4]) (by kernel_rfl) (by simp) ?_
  refine AllReadyH.cons rfl (fun K hK => ?_) AllReadyH.nil
  go_simp
  (go_at_call 62; refine (node_any N _ (w.heap.size + 1) A n c _ hn hN0 hN1 (R4.out.bl (by repeat' (first | exact Bl.refl _ | with_reducible assumption | with_reducible refine Bl.drew_ ?_ | with_reducible refine Bl.drewN_ ?_ _ | with_reducible refine Bl.alloc_ ?_ _ | with_reducible refine Bl.trans_ ?_ (by assumption) | with_reducible refine Bl.trans_ ?_ (And.left (by assumption)))))).mono ?_; rintro e w3 ⟨x, hx, rfl, hr, hg⟩; have hg' := grown_trans (bl_grown (show Bl w4 _ from (by repeat' (first | exact Bl.refl _ | with_reducible assumption | with_reducible refine Bl.drew_ ?_ | with_reducible refine Bl.drewN_ ?_ _ | with_reducible refine Bl.alloc_ ?_ _ | with_reducible refine Bl.trans_ ?_ (by assumption) | with_reducible refine Bl.trans_ ?_ (And.left (by assumption))))) _) hg; have hGG := grown_trans G4.out hg'; obtain ⟨r0, r1, fr0, fr1⟩ := Two.facts ((RES4.out).grown_ hg' (by simp)))
  try (go_wp2_with fail)
  refine hK.out _ _ ?_ (fun hHeld => ?_)
  · (first | exact (HSH.out _ hGG).2 | (refine ⟨?_, ?_⟩ <;> (simp [go_sem, nb, nb', *]; done)))
  clear hK K
  try simp only [Act.put, List.getElem_toArray, List.getElem_cons_succ, List.getElem_cons_zero, List.setIfInBounds_toArray, List.set_cons_zero, List.set_cons_succ]
  refine wpAnyH_ready (rs := [5]) (by kernel_rfl) (by simp) ?_
  refine AllReadyH.cons rfl (fun K hK => ?_) AllReadyH.nil
  go_simp
  refine hK.out _ _ ?_ (fun hHeld => ?_)
  · (first | exact (HSH.out _ hGG).2 | (refine ⟨?_, ?_⟩ <;> (simp [go_sem, nb, nb', *]; done)))
  clear hK K
  try simp only [Act.put, List.getElem_toArray, List.getElem_cons_succ, List.getElem_cons_zero, List.setIfInBounds_toArray, List.set_cons_zero, List.set_cons_succ]
  refine wpAnyH_take (i := 6) (v := ?_) rfl (by kernel_rfl) (by kernel_rfl) (by kernel_rfl) (fun _ _ _ h => h) (Or.inl ⟨by kernel_rfl, ?_⟩) (by assumption) ?_
  rotate_left
  · (intro wx hSw; (try dsimp only at hSw); go_simp; try (with_reducible rfl))
  try simp only [Act.put, List.getElem_toArray, List.getElem_cons_succ, List.getElem_cons_zero, List.setIfInBounds_toArray, List.set_cons_zero, List.set_cons_succ]
  refine wpAnyH_take (i := 7) (v := ?_) rfl (by kernel_rfl) (by kernel_rfl) (by kernel_rfl) (fun _ _ _ h => h) (Or.inl ⟨by kernel_rfl, ?_⟩) (by assumption) ?_
  rotate_left
  · (intro wx hSw; (try dsimp only at hSw); go_simp; try (with_reducible rfl))
  try simp only [Act.put, List.getElem_toArray, List.getElem_cons_succ, List.getElem_cons_zero, List.setIfInBounds_toArray, List.set_cons_zero, List.set_cons_succ]
  refine wpAnyH_done (by kernel_rfl) ?_ _
  go_wp2
  refine bodyPost_ret (v := .tuple #[.agg #[.int .i64 N, .slice A' l c'], .int .i64 s, .int .i64 x]) (by simp [results, Try.results74, go_sem, r0, r1, fr0, fr1]) rfl ?_
  have D3 := (D2.out.bl (Bl.alloc_ (Bl.refl w2) (.cells #[.int .i64 N, .slice A' l c'] 26))).far hGG (by omega)
  have B3 : Bl w w3 := ((((Bl.alloc_ (Bl.refl w) _).trans_ B2.out).alloc_ (.cells #[.int .i64 N, .slice A' l c'] 26)).grown_ hGG (fun g e => by injection e with e; omega))
  exact ⟨N, A', l, c', L, s, x, rfl, ⟨D3.1, D3.2.1, D3.2.2.1, ((D3.2.2.2.set_ (by show w.heap.size < w1.heap.size; omega) _).set_ (by show w.heap.size < w1.heap.size; omega) _).low (by omega)⟩, S4.out, hx, (B3.set_ (Nat.le_refl _) _).set_ (Nat.le_refl _) _⟩

end Go.Proofs.Ytdbjcojlcddhdaa

set_option linter.unusedSimpArgs false
set_option linter.unusedVariables false
namespace Go.Proofs.Ytdbjcojlcddhdaa
open Go.RowKit

set_option maxHeartbeats 400000 in
theorem sameInts_yes (A1 A2 : Option Addr) (c1 c2 : Nat) (V : List Int) (n : Nat) (hn : n = V.length) (w : World) (hm : n ≤ 9223372036854775807) (H1 : IntsAt w w.heap.size A1 V) (H2 : IntsAt w w.heap.size A2 V) :
    Calls Try.prog 35 #[.slice A1 n c1, .slice A2 n c2] w fun e w' => e = .returned (.bool true) ∧ Bl w w' := by
  have K1 := Lib.hid H1
  have K2 := Lib.hid H2
  have HN := Lib.hid hn
  have hnn : ((n : Int) != (n : Int)) = false := by simp
  clear H1 H2 hn
  go_enter Try.func35, Try.ntmps35
  go_wp2
  go_loopw [5] (fun i wr => ∃ k : Nat, k ≤ n ∧ i = .int .i64 k ∧ Bl w wr) (fun i _ => n - (intOf i).toNat)
  case atStart => exact ⟨0, by omega, rfl, Bl.refl w⟩
  case round =>
    obtain ⟨k, hk, rfl, hbl⟩ := hrel
    by_cases hlt : k < n
    · have hkl : k < V.length := by have := HN.out; omega
      obtain ⟨g1, o1, rfl, hg1, hc1⟩ := K1.out.cell (by omega)
      obtain ⟨g2, o2, rfl, hg2, hc2⟩ := K2.out.cell (by omega)
      have p1 := hc1 k hkl
      have p2 := hc2 k hkl
      clear hc1 hc2
      rw [← (bcell hbl).1 _ _ hg1] at p1
      rw [← (bcell hbl).1 _ _ hg2] at p2
      generalize V[k] = x at p1 p2
      have hxx : (x != x) = false := by simp
      have i1 : (0 : Int) ≤ (k : Int) := by omega
      have i2 : (k : Int) < (n : Int) := by omega
      go_wp2
      go_quiet (fail)
      go_wp2
      go_roundw
      case rel => exact ⟨k + 1, by omega, by go_num, (by repeat' (first | exact Bl.refl _ | with_reducible assumption | with_reducible refine Bl.drew_ ?_ | with_reducible refine Bl.drewN_ ?_ _ | with_reducible refine Bl.alloc_ ?_ _ | with_reducible refine Bl.trans_ ?_ (by assumption) | with_reducible refine Bl.trans_ ?_ (And.left (by assumption))))⟩
      case measure => simp [intOf]; omega
    · go_wp2
      go_ret
      exact ⟨rfl, hbl⟩

set_option maxHeartbeats 400000 in
theorem sameArcs_yes (A1 A2 : Option Addr) (c1 c2 : Nat) (L : List Arc3) (n : Nat) (hn : n = L.length) (w : World) (hm : n ≤ 9223372036854775807) (H1 : ArcsAt w w.heap.size A1 L) (H2 : ArcsAt w w.heap.size A2 L) :
    Calls Try.prog 63 #[.slice A1 n c1, .slice A2 n c2] w fun e w' => e = .returned (.bool true) ∧ Bl w w' := by
  have K1 := Lib.hid H1
  have K2 := Lib.hid H2
  have HN := Lib.hid hn
  have hnn : ((n : Int) != (n : Int)) = false := by simp
  clear H1 H2 hn
  go_enter Try.func63, Try.ntmps63
  go_wp2
  go_loopw [5] (fun i wr => ∃ k : Nat, k ≤ n ∧ i = .int .i64 k ∧ Bl w wr) (fun i _ => n - (intOf i).toNat)
  case atStart => exact ⟨0, by omega, rfl, Bl.refl w⟩
  case round =>
    obtain ⟨k, hk, rfl, hbl⟩ := hrel
    by_cases hlt : k < n
    · have hkl : k < L.length := by have := HN.out; omega
      obtain ⟨g1, o1, rfl, hg1, hc1⟩ := K1.out (by omega)
      obtain ⟨g2, o2, rfl, hg2, hc2⟩ := K2.out (by omega)
      obtain ⟨p1, p2, p3⟩ := hc1 k hkl
      obtain ⟨q1, q2, q3⟩ := hc2 k hkl
      clear hc1 hc2
      rw [← (bcell hbl).1 _ _ hg1] at p1 p2 p3
      rw [← (bcell hbl).1 _ _ hg2] at q1 q2 q3
      generalize L[k].1 = x at p1 q1
      generalize L[k].2.1 = y at p2 q2
      generalize L[k].2.2 = z at p3 q3
      have e1 : (x == x) = true := by simp
      have e2 : (y == y) = true := by simp
      have e3 : (z == z) = true := by simp
      have i1 : (0 : Int) ≤ (k : Int) := by omega
      have i2 : (k : Int) < (n : Int) := by omega
      go_wp2
      go_quiet (fail)
      go_wp2
      go_roundw
      case rel => exact ⟨k + 1, by omega, by go_num, (by repeat' (first | exact Bl.refl _ | with_reducible assumption | with_reducible refine Bl.drew_ ?_ | with_reducible refine Bl.drewN_ ?_ _ | with_reducible refine Bl.alloc_ ?_ _ | with_reducible refine Bl.trans_ ?_ (by assumption) | with_reducible refine Bl.trans_ ?_ (And.left (by assumption))))⟩
      case measure => simp [intOf]; omega
    · go_wp2
      go_ret
      exact ⟨rfl, hbl⟩

set_option maxHeartbeats 400000 in
theorem sameGraph_yes (N : Int) (A1 A2 : Option Addr) (c1 c2 : Nat) (L : List Arc3) (n : Nat) (hn : n = L.length) (w : World) (hm : n ≤ 9223372036854775807) (H1 : ArcsAt w w.heap.size A1 L) (H2 : ArcsAt w w.heap.size A2 L) :
    Calls Try.prog 20 #[.agg #[.int .i64 N, .slice A1 n c1], .agg #[.int .i64 N, .slice A2 n c2]] w fun e w' => e = .returned (.bool true) ∧ Bl w w' := by
  have K1 := Lib.hid H1
  have K2 := Lib.hid H2
  have HN := Lib.hid hn
  have hnn : (N == N) = true := by simp
  clear H1 H2 hn
  go_enter Try.func20, Try.ntmps20
  go_wp2_with fail
  refine (sameArcs_yes A1 A2 c1 c2 L n HN.out _ hm (K1.out.bl (by repeat' (first | exact Bl.refl _ | with_reducible assumption | with_reducible refine Bl.drew_ ?_ | with_reducible refine Bl.drewN_ ?_ _ | with_reducible refine Bl.alloc_ ?_ _ | with_reducible refine Bl.trans_ ?_ (by assumption) | with_reducible refine Bl.trans_ ?_ (And.left (by assumption))))) (K2.out.bl (by repeat' (first | exact Bl.refl _ | with_reducible assumption | with_reducible refine Bl.drew_ ?_ | with_reducible refine Bl.drewN_ ?_ _ | with_reducible refine Bl.alloc_ ?_ _ | with_reducible refine Bl.trans_ ?_ (by assumption) | with_reducible refine Bl.trans_ ?_ (And.left (by assumption)))))).mono ?_
  rintro e w1 ⟨rfl, hb1⟩
  go_wp2
  go_ret
  exact ⟨rfl, (Bl.alloc_ (Bl.alloc_ (Bl.refl w) _) _).trans_ hb1⟩

set_option maxHeartbeats 400000 in
theorem nodeLaw_any (N v : Int) (A : Option Addr) (n c : Nat) (L : List Arc3) (hn : n = L.length) (w : World) (hm : n ≤ 9223372036854775807) (H1 : ArcsAt w w.heap.size A L) :
    Calls Try.prog 37 #[.agg #[.int .i64 N, .slice A n c], .int .i64 v] w fun e w' => e = .returned (.bool (has1 N L v)) ∧ Bl w w' := by
  have K1 := Lib.hid H1
  have HN := Lib.hid hn
  clear H1 hn
  cases ho : okB N L with
  | false =>
    have HO := Lib.hid ho
    clear ho
    go_enter Try.func37, Try.ntmps37
    go_wp2_with fail
    refine (specOk_any N A n c L HN.out _ hm (K1.out.bl (by repeat' (first | exact Bl.refl _ | with_reducible assumption | with_reducible refine Bl.drew_ ?_ | with_reducible refine Bl.drewN_ ?_ _ | with_reducible refine Bl.alloc_ ?_ _ | with_reducible refine Bl.trans_ ?_ (by assumption) | with_reducible refine Bl.trans_ ?_ (And.left (by assumption)))))).mono ?_
    rintro e w1 ⟨rfl, hb1⟩
    rw [HO.out]
    go_wp2
    go_ret
    exact ⟨ret_bool (by unfold has1; rw [HO.out]; rfl), (Bl.alloc_ (Bl.refl w) _).trans_ hb1⟩
  | true =>
    have HO := Lib.hid ho
    clear ho
    by_cases h0 : 0 ≤ v
    · have b0 : decide (0 ≤ v) = true := by simpa using h0
      by_cases h1 : v < N
      · have b1 : decide (v < N) = true := by simpa using h1
        go_enter Try.func37, Try.ntmps37
        go_wp2_with fail
        refine (specOk_any N A n c L HN.out _ hm (K1.out.bl (by repeat' (first | exact Bl.refl _ | with_reducible assumption | with_reducible refine Bl.drew_ ?_ | with_reducible refine Bl.drewN_ ?_ _ | with_reducible refine Bl.alloc_ ?_ _ | with_reducible refine Bl.trans_ ?_ (by assumption) | with_reducible refine Bl.trans_ ?_ (And.left (by assumption)))))).mono ?_
        rintro e w1 ⟨rfl, hb1⟩
        rw [HO.out]
        obtain ⟨q0, q1⟩ := box2 hb1
        go_wp2
        go_ret
        exact ⟨ret_bool (by unfold has1; rw [HO.out, Bool.true_and]; symm; simp; omega), (Bl.alloc_ (Bl.refl w) _).trans_ hb1⟩
      · have b1 : decide (v < N) = false := by simpa using h1
        go_enter Try.func37, Try.ntmps37
        go_wp2_with fail
        refine (specOk_any N A n c L HN.out _ hm (K1.out.bl (by repeat' (first | exact Bl.refl _ | with_reducible assumption | with_reducible refine Bl.drew_ ?_ | with_reducible refine Bl.drewN_ ?_ _ | with_reducible refine Bl.alloc_ ?_ _ | with_reducible refine Bl.trans_ ?_ (by assumption) | with_reducible refine Bl.trans_ ?_ (And.left (by assumption)))))).mono ?_
        rintro e w1 ⟨rfl, hb1⟩
        rw [HO.out]
        obtain ⟨q0, q1⟩ := box2 hb1
        go_wp2
        go_ret
        exact ⟨ret_bool (by unfold has1; rw [HO.out, Bool.true_and]; symm; simp; omega), (Bl.alloc_ (Bl.refl w) _).trans_ hb1⟩
    · have b0 : decide (0 ≤ v) = false := by simpa using h0
      go_enter Try.func37, Try.ntmps37
      go_wp2_with fail
      refine (specOk_any N A n c L HN.out _ hm (K1.out.bl (by repeat' (first | exact Bl.refl _ | with_reducible assumption | with_reducible refine Bl.drew_ ?_ | with_reducible refine Bl.drewN_ ?_ _ | with_reducible refine Bl.alloc_ ?_ _ | with_reducible refine Bl.trans_ ?_ (by assumption) | with_reducible refine Bl.trans_ ?_ (And.left (by assumption)))))).mono ?_
      rintro e w1 ⟨rfl, hb1⟩
      rw [HO.out]
      obtain ⟨q0, q1⟩ := box2 hb1
      go_wp2
      go_ret
      exact ⟨ret_bool (by unfold has1; rw [HO.out, Bool.true_and]; symm; simp; omega), (Bl.alloc_ (Bl.refl w) _).trans_ hb1⟩

end Go.Proofs.Ytdbjcojlcddhdaa

set_option linter.unusedSimpArgs false
set_option linter.unusedVariables false
namespace Go.Proofs.Ytdbjcojlcddhdaa
open Go.RowKit

set_option maxHeartbeats 400000 in
theorem hasL_any (A : Option Addr) (c : Nat) (V : List Int) (n : Nat) (hn : n = V.length) (x : Int) (w : World) (hm : n ≤ 9223372036854775807) (H1 : IntsAt w w.heap.size A V) :
    Calls Try.prog 38 #[.slice A n c, .int .i64 x] w fun e w' => e = .returned (.bool (decide (x ∈ V))) ∧ Bl w w' := by
  have K1 := Lib.hid H1
  have HN := Lib.hid hn
  clear H1 hn
  go_enter Try.func38, Try.ntmps38
  go_wp2
  go_loopw [5] (fun i wr => ∃ k : Nat, k ≤ n ∧ i = .int .i64 k ∧ Bl w wr ∧ Hid (∀ j (h : j < V.length), j < k → V[j] ≠ x)) (fun i _ => n - (intOf i).toNat)
  case atStart => exact ⟨0, by omega, rfl, Bl.refl w, Lib.hid (fun j _ h => by omega)⟩
  case round =>
    obtain ⟨k, hk, rfl, hbl, hno⟩ := hrel
    by_cases hlt : k < n
    · have hkl : k < V.length := by have := HN.out; omega
      obtain ⟨g1, o1, rfl, hg1, hc1⟩ := K1.out.cell (by omega)
      have p1 := hc1 k hkl
      clear hc1
      rw [← (bcell hbl).1 _ _ hg1] at p1
      have HY := Lib.hid (fun h : V[k] ≠ x => (show ∀ j (h : j < V.length), j < k + 1 → V[j] ≠ x from fun j hj hjk => by
        by_cases e : j = k
        · subst e; exact h
        · exact hno.out j hj (by omega)))
      have HX := Lib.hid (fun h : V[k] = x => (show decide (x ∈ V) = true from by rw [decide_eq_true_eq, ← h]; exact List.getElem_mem hkl))
      generalize V[k] = y at p1 HY HX
      have i1 : (0 : Int) ≤ (k : Int) := by omega
      have i2 : (k : Int) < (n : Int) := by omega
      by_cases e : y = x
      · have b1 : (y == x) = true := by simpa using e
        have HZ := Lib.hid (HX.out e)
        clear e HY HX
        go_wp2
        go_ret
        exact ⟨ret_bool HZ.out.symm, hbl⟩
      · have b1 : (y == x) = false := by simpa using e
        have HZ := Lib.hid (HY.out e)
        clear e HY HX
        go_wp2
        go_roundw
        case rel => exact ⟨k + 1, by omega, by go_num, hbl, HZ⟩
        case measure => simp [intOf]; omega
    · have HZ := Lib.hid (show decide (x ∈ V) = false from by
        rw [decide_eq_false_iff_not]
        intro hx
        obtain ⟨j, hj, e⟩ := List.getElem_of_mem hx
        exact absurd e (hno.out j hj (by have := HN.out; omega)))
      go_wp2
      go_ret
      exact ⟨ret_bool HZ.out.symm, hbl⟩

end Go.Proofs.Ytdbjcojlcddhdaa

set_option linter.unusedSimpArgs false
set_option linter.unusedVariables false
namespace Go.Proofs.Ytdbjcojlcddhdaa
open Go.RowKit

set_option maxRecDepth 100000 in
set_option maxHeartbeats 1000000 in
theorem drawOnShortest_any (A : Option Addr) (n c : Nat) (w : World) (hn : n ≤ 1099511627776) (H : BytesAt w A n) :
    Calls Try.prog 33 #[.slice A n c] w (DrawnG2 w) := by
  have K := Lib.hid H
  clear H
  go_enter Try.func33, Try.ntmps33
  go_wp2_with fail
  refine (drawDistOf_any A n c _ hn (K.out.bl (by repeat' (first | exact Bl.refl _ | with_reducible assumption | with_reducible refine Bl.drew_ ?_ | with_reducible refine Bl.drewN_ ?_ _ | with_reducible refine Bl.alloc_ ?_ _ | with_reducible refine Bl.trans_ ?_ (by assumption) | with_reducible refine Bl.trans_ ?_ (And.left (by assumption)))))).mono ?_
  rintro e w1 ⟨N, A', l, c', L, s, t, rfl, hd, hs, ht, hb⟩
  have D := Lib.hid hd
  have S1 := Lib.hid hs
  have S2 := Lib.hid ht
  have B := Lib.hid hb
  obtain ⟨r0, r1, fr0, fr1⟩ := Two.facts ((Two.new w (.int .i64 0) (.slice none 0 0)).bl hb)
  have sz := hb.size
  simp only [World.size_alloc] at sz
  clear hd hs ht hb
  go_wp2
  refine bodyPost_ret (v := .tuple #[.agg #[.int .i64 N, .slice A' l c'], .int .i64 s, .int .i64 t]) (by simp [results, Try.results33, go_sem, r0, r1, fr0, fr1]) rfl ?_
  have DD := D.out
  rw [World.size_alloc] at DD
  exact ⟨N, A', l, c', L, s, t, rfl, ⟨DD.1, DD.2.1, DD.2.2.1, ((DD.2.2.2.set_ (by show w.heap.size < w.heap.size + 1; omega) _).set_ (by show w.heap.size < w.heap.size + 1; omega) _).low (by omega)⟩, S1.out, S2.out, (((Bl.alloc_ (Bl.refl w) _).trans_ B.out).set_ (Nat.le_refl _) _).set_ (Nat.le_refl _) _⟩

end Go.Proofs.Ytdbjcojlcddhdaa

set_option linter.unusedSimpArgs false
set_option linter.unusedVariables false
namespace Go.Proofs.Ytdbjcojlcddhdaa
open Go.RowKit

set_option maxRecDepth 100000 in
set_option maxHeartbeats 4000000 in
theorem l1Reverse_any (N : Int) (A : Option Addr) (n c : Nat) (L : List Arc3) (hn : n = L.length) (w : World) (hm : n ≤ 1048576) (H1 : ArcsAt w w.heap.size A L) :
    Calls Try.prog 70 #[.agg #[.int .i64 N, .slice A n c]] w (GraphMade1 N (revL L) w) := by
  have K1 := Lib.hid H1
  have HN := Lib.hid hn
  clear H1 hn
  have T0 := Lib.hid (show TS w (.cells #[.int .i64 N, .slice A n c] 26) (w.heap.size + 1) (w.heap.size + 2) N (.slice none 0 0) [] (((w.alloc (.cells #[.int .i64 N, .slice A n c] 26)).alloc (.cells #[.int .i64 0, .slice none 0 0] 26)).alloc (.cells #[.int .i64 N, .slice none 0 0] 26)) from by
    refine ⟨?_, ?_, OwnA.nil_ _ _, (by repeat' (first | exact Bl.refl _ | with_reducible assumption | with_reducible refine Bl.drew_ ?_ | with_reducible refine Bl.drewN_ ?_ _ | with_reducible refine Bl.alloc_ ?_ _ | with_reducible refine Bl.trans_ ?_ (by assumption) | with_reducible refine Bl.trans_ ?_ (And.left (by assumption)))), by omega, by omega⟩
    · have := Two.new ((w.alloc (.cells #[.int .i64 N, .slice A n c] 26)).alloc (.cells #[.int .i64 0, .slice none 0 0] 26)) (.int .i64 N) (.slice none 0 0)
      simpa using this
    · have := Two.new (w.alloc (.cells #[.int .i64 N, .slice A n c] 26)) (.int .i64 0) (.slice none 0 0)
      have := this.bl (Bl.alloc_ (Bl.refl _) (.cells #[.int .i64 N, .slice none 0 0] 26))
      simpa using this)
  go_enter Try.func70, Try.ntmps70
  go_wp2_with fail
  go_loopw [4] (fun i wr => ∃ (k : Nat) (q : Value), k ≤ n ∧ i = .int .i64 k ∧ TS w (.cells #[.int .i64 N, .slice A n c] 26) (w.heap.size + 1) (w.heap.size + 2) N q (revK L k) wr) (fun i _ => n - (intOf i).toNat)
  case atStart => exact ⟨0, _, by omega, rfl, T0.out⟩
  case round =>
    obtain ⟨k, q, hk, rfl, hT⟩ := hrel
    obtain ⟨h00, h01⟩ := box2 hT.bl
    obtain ⟨c0, c1, f0, f1⟩ := hT.box.facts
    obtain ⟨AQ, cq, rfl, hAQ, -⟩ := hT.own.shape
    have T := Lib.hid hT
    have Q := Lib.hid hAQ
    have hbw : Bl w wr := (Bl.alloc_ (Bl.refl w) _).trans_ hT.bl
    have HB := Lib.hid hbw
    clear hT hAQ T0
    by_cases hlt : k < n
    · have hkl : k < L.length := by have := HN.out; omega
      obtain ⟨g1, o1, rfl, hg1, hc1⟩ := K1.out (by omega)
      obtain ⟨p1, p2, p3⟩ := hc1 k hkl
      clear hc1
      rw [← (bcell hbw).1 _ _ hg1] at p1 p2 p3
      have RK := Lib.hid (revK_succ hkl)
      have hlen := revK_len L k (by omega)
      generalize hx : L[k].1 = x at p1
      generalize hy : L[k].2.1 = y at p2
      generalize hz : L[k].2.2 = z at p3
      have HE := Lib.hid (show turnA L[k] = (y, x, z) from by unfold turnA; rw [hx, hy, hz])
      clear hx hy hz hbw
      obtain ⟨l, hl⟩ : ∃ l, l = (revK L k).length := ⟨_, rfl⟩
      rw [← hl] at hlen c1 T
      have HL := Lib.hid hl
      clear hl
      have u1 : (0 : Int) ≤ (k : Int) := by omega
      have u2 : (k : Int) < (n : Int) := by omega
      go_wp2_with fail
      have TD := Lib.hid (T.out.bl_ (show Bl wr wr.drew from (by repeat' (first | exact Bl.refl _ | with_reducible assumption | with_reducible refine Bl.drew_ ?_ | with_reducible refine Bl.drewN_ ?_ _ | with_reducible refine Bl.alloc_ ?_ _ | with_reducible refine Bl.trans_ ?_ (by assumption) | with_reducible refine Bl.trans_ ?_ (And.left (by assumption))))))
      have e0 := (TD.out.box.facts).1
      go_still_tail 21, (by kernel_rfl)
      change wpList _ _ _ _ _ wr.drew
      go_wp2_with fail
      refine (l1Put_any y x z AQ l cq (revK L k) HL.out _ (by omega) (Q.out.bl (by repeat' (first | exact Bl.refl _ | with_reducible assumption | with_reducible refine Bl.drew_ ?_ | with_reducible refine Bl.drewN_ ?_ _ | with_reducible refine Bl.alloc_ ?_ _ | with_reducible refine Bl.trans_ ?_ (by assumption) | with_reducible refine Bl.trans_ ?_ (And.left (by assumption)))))).mono ?_
      rintro e w9 ⟨v4, rfl, ho, hb⟩
      obtain ⟨AB, cb, rfl, -, -⟩ := ho.shape
      have hlen2 := putL_len (y, x, z) (revK L k)
      have U4 := Lib.hid (TD.out.bl_ hb)
      have O4 := Lib.hid (U4.out.put (q2 := _) (L2 := putL (y, x, z) (revK L k)) (ho.low (World.rowIs.lt TD.out.box)))
      obtain ⟨d0, d1, k0, k1⟩ := U4.out.box.facts
      clear ho c0 c1 f0 f1 e0
      go_wp2
      go_roundw
      case rel => exact ⟨k + 1, _, by omega, by go_num, by rw [RK.out, HE.out]; exact O4.out⟩
      case measure => simp [intOf]; omega
    · obtain rfl : k = n := by omega
      have RA := Lib.hid (show revK L k = revL L from by rw [HN.out]; exact revK_all L)
      obtain ⟨r0, r1, fr0, fr1⟩ := T.out.res.facts
      go_wp2
      refine bodyPost_ret (v := .agg #[.int .i64 N, .slice AQ (revK L k).length cq]) (by simp [results, Try.results70, go_sem, r0, r1, fr0, fr1]) rfl ?_
      have := T.out.fin (.int .i64 N) (.slice AQ (revK L k).length cq)
      rw [RA.out] at this ⊢
      exact ⟨_, rfl, this.1, this.2⟩

set_option maxRecDepth 100000 in
set_option maxHeartbeats 1000000 in
theorem specReversed_any (N : Int) (A : Option Addr) (n c : Nat) (L : List Arc3) (hn : n = L.length) (w : World) (hm : n ≤ 1048576) (H1 : ArcsAt w w.heap.size A L) :
    Calls Try.prog 26 #[.agg #[.int .i64 N, .slice A n c]] w (GraphMade1 (revN N L) (revG N L) w) := by
  have K1 := Lib.hid H1
  have HN := Lib.hid hn
  clear H1 hn
  cases ho : okB N L with
  | false =>
    have HO := Lib.hid ho
    clear ho
    go_enter Try.func26, Try.ntmps26
    go_wp2_with fail
    refine (specOk_any N A n c L HN.out _ (by omega) (K1.out.bl (by repeat' (first | exact Bl.refl _ | with_reducible assumption | with_reducible refine Bl.drew_ ?_ | with_reducible refine Bl.drewN_ ?_ _ | with_reducible refine Bl.alloc_ ?_ _ | with_reducible refine Bl.trans_ ?_ (by assumption) | with_reducible refine Bl.trans_ ?_ (And.left (by assumption)))))).mono ?_
    rintro e w1 ⟨rfl, hb1⟩
    rw [HO.out]
    obtain ⟨h00, h01, h10, h11, f10, f11, hsz⟩ := box22 hb1
    go_wp2
    refine bodyPost_ret (v := .agg #[.int .i64 0, .slice none 0 0]) (by simp [results, Try.results26, go_sem, h10, h11, f10, f11]) rfl ?_
    refine ⟨.slice none 0 0, by unfold revN; rw [HO.out]; rfl, by unfold revG; rw [HO.out, if_neg (by simp)]; exact OwnA.nil_ _ _, ?_⟩
    exact Bl.set_ (Bl.set_ ((Bl.alloc_ (Bl.alloc_ (Bl.refl w) _) _).trans_ hb1) (Nat.le_succ _) _) (Nat.le_succ _) _
  | true =>
    have HO := Lib.hid ho
    clear ho
    go_enter Try.func26, Try.ntmps26
    go_wp2_with fail
    refine (specOk_any N A n c L HN.out _ (by omega) (K1.out.bl (by repeat' (first | exact Bl.refl _ | with_reducible assumption | with_reducible refine Bl.drew_ ?_ | with_reducible refine Bl.drewN_ ?_ _ | with_reducible refine Bl.alloc_ ?_ _ | with_reducible refine Bl.trans_ ?_ (by assumption) | with_reducible refine Bl.trans_ ?_ (And.left (by assumption)))))).mono ?_
    rintro e w1 ⟨rfl, hb1⟩
    rw [HO.out]
    obtain ⟨h00, h01, h10, h11, f10, f11, hsz⟩ := box22 hb1
    go_wp2_with fail
    refine (l1Reverse_any N A n c L HN.out _ hm (K1.out.bl (by repeat' (first | exact Bl.refl _ | with_reducible assumption | with_reducible refine Bl.drew_ ?_ | with_reducible refine Bl.drewN_ ?_ _ | with_reducible refine Bl.alloc_ ?_ _ | with_reducible refine Bl.trans_ ?_ (by assumption) | with_reducible refine Bl.trans_ ?_ (And.left (by assumption)))))).mono ?_
    rintro e w2 ⟨v, rfl, hv, hb2⟩
    have HV := Lib.hid hv
    have hb2 := hb1.trans_ hb2
    obtain ⟨A2, c2, rfl, -, -⟩ := hv.shape
    clear hv h00 h01 h10 h11 f10 f11
    obtain ⟨h00, h01, h10, h11, f10, f11, hsz2⟩ := box22 hb2
    go_wp2
    refine bodyPost_ret (v := .agg #[.int .i64 N, .slice A2 (revL L).length c2]) (by simp [results, Try.results26, go_sem, h10, h11, f10, f11]) rfl ?_
    refine ⟨_, by unfold revN; rw [HO.out]; rfl, ?_, Bl.set_ (Bl.set_ ((Bl.alloc_ (Bl.alloc_ (Bl.refl w) _) _).trans_ hb2) (Nat.le_succ _) _) (Nat.le_succ _) _⟩
    unfold revG
    rw [HO.out, if_pos rfl]
    exact ((HV.out.set_ (by show w.heap.size + 1 < _; omega) _).set_ (by show w.heap.size + 1 < _; omega) _).low (by omega)

end Go.Proofs.Ytdbjcojlcddhdaa

set_option linter.unusedSimpArgs false
set_option linter.unusedVariables false
namespace Go.Proofs.Ytdbjcojlcddhdaa
open Go.RowKit

theorem IsDist.tri {N : Int} {L : List Arc3} {s t : Int} {D E : List Int} (ho : okB N L = true) (hD : IsDist N L s D) (hE : IsDist N (revL L) t E) :
    ∀ (n : Nat) (v : Int), 0 ≤ v → v < N → (dAt E v).toNat = n → 0 ≤ dAt E v → 0 ≤ dAt D v → 0 ≤ dAt D t ∧ dAt D t ≤ dAt D v + dAt E v := by
  have hp := (okB_elim ho).2.2.2.2
  have hin := arcsIn_of_ok ho
  intro n
  induction n using Nat.strongRecOn with
  | ind n ih =>
    intro v h0 h1 hn hb ha
    rcases hE.back v h0 h1 hb with rfl | ⟨r, hr, e1, e2, e3⟩
    · have := hE.start
      omega
    · have hm := (revL_mem hp).1 hr
      obtain ⟨a0, a1, a2, a3, a4, a5⟩ := hin _ hm
      simp only [turnA] at a0 a1 a2 a3 a4 a5
      have := hD.arc _ hm (by simp only [turnA]; rw [e1]; exact ha)
      simp only [turnA] at this
      rw [e1] at this
      obtain ⟨x, y⟩ := ih (dAt E r.1).toNat (by omega) r.1 a2 a3 rfl e2 this.1
      omega
/-- In the graph that is turned it is as far the other way round. -/
theorem IsDist.turned {N : Int} {L : List Arc3} {s t : Int} {D E : List Int} (ho : okB N L = true) (hs : 0 ≤ s ∧ s < N) (ht : 0 ≤ t ∧ t < N) (hD : IsDist N L s D) (hE : IsDist N (revL L) t E) : dAt E s = dAt D t := by
  have h1 := fun h => hD.tri ho hE _ s hs.1 hs.2 rfl h (by rw [hD.start]; omega)
  have hD' : IsDist N (revL (revL L)) s D := by rw [revL_revL ho]; exact hD
  have h2 := fun h => hE.tri (revL_ok ho) hD' _ t ht.1 ht.2 rfl h (by rw [hE.start]; omega)
  have e1 := hD.start
  have e2 := hE.start
  have l1 := hD.low t
  have l2 := hE.low s
  by_cases p : 0 ≤ dAt E s
  · obtain ⟨a, b⟩ := h1 p
    obtain ⟨c, d⟩ := h2 a
    omega
  · by_cases q : 0 ≤ dAt D t
    · obtain ⟨c, d⟩ := h2 q
      omega
    · omega

/-- The nodes of N, rising. -/
def nodesL (N : Int) : List Int := (List.range N.toNat).map Int.ofNat
/-- Is it by way of v at most so far? -/
def byB (D E : List Int) (m v : Int) : Bool := decide (0 ≤ dAt D v ∧ 0 ≤ dAt E v ∧ dAt D v + dAt E v ≤ m)
/-- The nodes by way of which it is at most so far. -/
def withinD (N : Int) (D E : List Int) (m : Int) : List Int := (nodesL N).filter (byB D E m)
def withinL (N : Int) (L : List Arc3) (s t m : Int) : List Int := withinD N (distL N L s) (distL N (revL L) t) m
theorem withinD_len (N : Int) (D E : List Int) (m : Int) : (withinD N D E m).length ≤ N.toNat := by
  unfold withinD
  exact Nat.le_trans (List.length_filter_le _ _) (by simp [nodesL])
/-- The first k of them. -/
def withinK (D E : List Int) (m : Int) (k : Nat) : List Int := ((List.range k).map Int.ofNat).filter (byB D E m)
theorem withinK_zero (D E : List Int) (m : Int) : withinK D E m 0 = [] := rfl
theorem withinK_yes {D E : List Int} {m : Int} {k : Nat} (h : byB D E m (k : Int) = true) : withinK D E m (k + 1) = withinK D E m k ++ [(k : Int)] := by
  unfold withinK
  rw [List.range_succ, List.map_append, List.filter_append]
  congr 1
  show List.filter _ [(k : Int)] = _
  rw [List.filter_cons, if_pos h]
  rfl
theorem withinK_no {D E : List Int} {m : Int} {k : Nat} (h : byB D E m (k : Int) = false) : withinK D E m (k + 1) = withinK D E m k := by
  unfold withinK
  rw [List.range_succ, List.map_append, List.filter_append]
  have : List.filter (byB D E m) (List.map Int.ofNat [k]) = [] := by
    show List.filter _ [(k : Int)] = _
    rw [List.filter_cons, if_neg (by rw [h]; simp)]
    rfl
  rw [this, List.append_nil]
theorem withinK_len (D E : List Int) (m : Int) (k : Nat) : (withinK D E m k).length ≤ k := by
  unfold withinK
  exact Nat.le_trans (List.length_filter_le _ _) (by simp)
theorem withinK_all (N : Int) (D E : List Int) (m : Int) : withinK D E m N.toNat = withinD N D E m := rfl
theorem mem_nodesL {N v : Int} : v ∈ nodesL N ↔ 0 ≤ v ∧ v < N := by
  unfold nodesL
  rw [List.mem_map]
  constructor
  · rintro ⟨k, hk, rfl⟩
    have := List.mem_range.1 hk
    simp
    omega
  · rintro ⟨h0, h1⟩
    exact ⟨v.toNat, List.mem_range.2 (by omega), by simp; omega⟩
theorem mem_withinD {N : Int} {D E : List Int} {m v : Int} : v ∈ withinD N D E m ↔ (0 ≤ v ∧ v < N) ∧ 0 ≤ dAt D v ∧ 0 ≤ dAt E v ∧ dAt D v + dAt E v ≤ m := by
  unfold withinD
  rw [List.mem_filter, mem_nodesL]
  simp [byB]

/-- The nodes of the shortest paths. -/
def onL (N : Int) (L : List Arc3) (s t : Int) : List Int := if has2 N L s t = true then withinL N L s t (dAt (distL N L s) t) else []
def betL (N : Int) (L : List Arc3) (s t m : Int) : List Int := if (has2 N L s t && decide (0 ≤ m ∧ m ≤ 24000)) = true then withinL N L s t m else []
theorem byB_on {N : Int} {L : List Arc3} {s t v : Int} {D E : List Int} (ho : okB N L = true) (hD : IsDist N L s D) (hE : IsDist N (revL L) t E) (h0 : 0 ≤ v) (h1 : v < N) : byB D E (dAt D t) v = decide (0 ≤ dAt D v ∧ 0 ≤ dAt E v ∧ dAt D v + dAt E v = dAt D t) := by
  unfold byB
  rw [Bool.eq_iff_iff]
  simp only [decide_eq_true_eq]
  constructor
  · rintro ⟨a, b, c⟩
    have := hD.tri ho hE _ v h0 h1 rfl b a
    omega
  · rintro ⟨a, b, c⟩
    omega
theorem byB_none {D E : List Int} {m v : Int} (h : m < 0) : byB D E m v = false := by
  unfold byB
  rw [decide_eq_false_iff_not]
  omega
theorem withinD_none {N : Int} {D E : List Int} {m : Int} (h : m < 0) : withinD N D E m = [] := by
  unfold withinD
  rw [List.filter_eq_nil_iff]
  intro v _
  rw [byB_none h]
  simp
theorem stepsL_len (L : List Arc3) (D : List Int) (t : Int) : ∀ (n : Nat) (v : Int), (dAt D v).toNat = n → (stepsL L D t v).length ≤ n := by
  intro n
  induction n using Nat.strongRecOn with
  | ind n ih =>
    intro v hn
    rw [stepsL]
    split
    · simp
    · split
      · simp
      · split
        · rename_i a _ h
          have := ih _ (by omega) a.2.1 rfl
          simp only [List.length_cons]
          omega
        · simp
theorem distL_of_turned {N s t : Int} {L : List Arc3} (ho : okB N L = true) (hs : 0 ≤ s ∧ s < N) (ht : 0 ≤ t ∧ t < N) : dAt (distL N (revL L) t) s = dAt (distL N L s) t :=
  IsDist.turned ho hs ht (distL_is (arcsIn_of_ok ho) (okB_elim ho).2.1 hs.1 hs.2) (distL_is (arcsIn_of_ok (revL_ok ho)) (okB_elim ho).2.1 ht.1 ht.2)

/-- The first of the shortest paths; none: there is none. -/
def pathL (N : Int) (L : List Arc3) (s t : Int) : List Int := if (has2 N L s t && decide (0 ≤ dAt (distL N (revL L) t) s)) = true then s :: stepsL L (distL N (revL L) t) t s else []

theorem onL_len (N : Int) (L : List Arc3) (s t : Int) : (onL N L s t).length ≤ 1048576 := by
  unfold onL
  split
  · rename_i h
    have := (okB_elim (has2_of h).1).2.1
    have := withinD_len N (distL N L s) (distL N (revL L) t) (dAt (distL N L s) t)
    unfold withinL
    omega
  · simp
theorem betL_len (N : Int) (L : List Arc3) (s t m : Int) : (betL N L s t m).length ≤ 1048576 := by
  unfold betL
  split
  · rename_i h
    rw [Bool.and_eq_true] at h
    have := (okB_elim (has2_of h.1).1).2.1
    have := withinD_len N (distL N L s) (distL N (revL L) t) m
    unfold withinL
    omega
  · simp
theorem pathL_len (N : Int) (L : List Arc3) (s t : Int) : (pathL N L s t).length ≤ 1048576 := by
  unfold pathL
  split
  · rename_i h
    rw [Bool.and_eq_true] at h
    obtain ⟨ho, h1, h2⟩ := has2_of h.1
    have := (distL_top (revL_ok ho) h2.1 h2.2 s).2
    have := stepsL_len L (distL N (revL L) t) t _ s rfl
    simp only [List.length_cons]
    omega
  · simp

/-- The weight of step k of a path; 0: it is none. -/
def stepW (L : List Arc3) (P : List Int) (k : Nat) : Int := wtL (P.getD k 0) (P.getD (k + 1) 0) L
/-- The first k steps together. -/
def sumW (L : List Arc3) (P : List Int) : Nat → Int
  | 0 => 0
  | k + 1 => sumW L P k + stepW L P k
theorem stepW_at {L : List Arc3} {P : List Int} {k : Nat} (h : k + 1 < P.length) : stepW L P k = wtL P[k] P[k + 1] L := by
  unfold stepW
  rw [List.getD_eq_getElem?_getD, List.getD_eq_getElem?_getD, List.getElem?_eq_getElem (by omega), List.getElem?_eq_getElem h]
  rfl
/-- Is it a path of a right graph? -/
def pathB (N : Int) (L : List Arc3) (P : List Int) : Bool := okB N L && decide (0 < P.length ∧ P.length ≤ 1000 ∧ (0 ≤ P.getD 0 0 ∧ P.getD 0 0 < N) ∧ ∀ j, j < P.length - 1 → stepW L P j ≠ 0)
def lenI (N : Int) (L : List Arc3) (P : List Int) : Int := if pathB N L P = true then sumW L P (P.length - 1) else 0

end Go.Proofs.Ytdbjcojlcddhdaa

set_option linter.unusedSimpArgs false
set_option linter.unusedVariables false
namespace Go.Proofs.Ytdbjcojlcddhdaa
open Go.RowKit

theorem wtL_bounds {N u v : Int} {L : List Arc3} (ho : okB N L = true) : 0 ≤ wtL u v L ∧ wtL u v L ≤ 1000 := by
  have h := arcsIn_of_ok ho
  have key : ∀ (M : List Arc3), (∀ a ∈ M, 1 ≤ a.2.2 ∧ a.2.2 ≤ 1000) → 0 ≤ wtL u v M ∧ wtL u v M ≤ 1000 := by
    intro M
    induction M with
    | nil => intro _; simp [wtL]
    | cons a M ih =>
      intro hM
      unfold wtL
      split
      · have := hM a (by simp); omega
      · exact ih fun b hb => hM b (by simp [hb])
  exact key L fun a ha => by have := h a ha; omega

theorem dAt_at {D : List Int} {k : Nat} (hk : k < D.length) : dAt D (k : Int) = D[k] := by simp [dAt, hk]

end Go.Proofs.Ytdbjcojlcddhdaa

set_option linter.unusedSimpArgs false
set_option linter.unusedVariables false
namespace Go.Proofs.Ytdbjcojlcddhdaa
open Go.RowKit

theorem cell_new_drewN (w : World) (n : Nat) (v : Value) (t : TypeId) : ((w.drewN n).alloc (.cells #[v] t)).cell? ⟨w.heap.size, 0, none⟩ = some v := by
  have h : ∀ wz : World, (wz.alloc (.cells #[v] t)).cell? ⟨wz.heap.size, 0, none⟩ = some v := fun wz => by simp [go_sem]
  exact h (w.drewN n)
theorem withinK_len' (D E : List Int) (m : Int) (k : Nat) : (withinK D E m k).length ≤ k := withinK_len D E m k
theorem byB_at {D E : List Int} {m : Int} {k : Nat} (h : k < D.length) (h' : k < E.length) : byB D E m (k : Int) = decide (0 ≤ D[k] ∧ 0 ≤ E[k] ∧ D[k] + E[k] ≤ m) := by
  unfold byB
  rw [dAt_at h, dAt_at h']

set_option maxRecDepth 100000 in
set_option maxHeartbeats 4000000 in
theorem specBetween_any (N s t m : Int) (A : Option Addr) (n c : Nat) (L : List Arc3) (hn : n = L.length) (hc : n ≤ c) (w : World) (hm : n ≤ 1048576) (H1 : ArcsAt w w.heap.size A L) :
    Calls Try.prog 50 #[.agg #[.int .i64 N, .slice A n c], .int .i64 s, .int .i64 t, .int .i64 m] w (NumsMade (betL N L s t m) w) := by
  obtain ⟨i0, hi, hz0, hz1, hz2⟩ := info_parts infoInt
  have I0 := Lib.hid hi
  have I1 := Lib.hid hz0
  have I2 := Lib.hid hz1
  have I3 := Lib.hid hz2
  have K1 := Lib.hid H1
  have HN := Lib.hid hn
  have O0 := Lib.hid (show ∀ wx, Bl ((w.alloc (.cells #[.int .i64 N, .slice A n c] 26)).alloc (.cells #[] 2)) wx → OwnN wx (w.heap.size + 1) (.slice (some ⟨w.heap.size + 1, 0, none⟩) 0 0) [] from fun wx hb => by
    have h := World.ownsRow_made (base := w.heap.size + 1) (e := 2) (size := 1) (w.alloc (.cells #[.int .i64 N, .slice A n c] 26)) #[] 0 (by simp) (by unfold maxLen; omega) rfl
    rw [World.size_alloc] at h
    exact OwnN.bl h hb)
  have BX := Lib.hid (show ∀ wx, Bl ((w.alloc (.cells #[.int .i64 N, .slice A n c] 26)).alloc (.cells #[] 2)) wx → wx.cell? ⟨w.heap.size, 0, none⟩ = some (.int .i64 N) ∧ wx.cell? ⟨w.heap.size, 1, none⟩ = some (.slice A n c) from fun wx hb => box2 ((Bl.alloc_ (Bl.refl (w.alloc (.cells #[.int .i64 N, .slice A n c] 26))) _).trans_ hb))
  have BW := Lib.hid (show ∀ wx, Bl ((w.alloc (.cells #[.int .i64 N, .slice A n c] 26)).alloc (.cells #[] 2)) wx → Bl w wx from fun wx hb => (Bl.alloc_ (Bl.alloc_ (Bl.refl w) _) _).trans_ hb)
  clear H1 hn hi hz0 hz1 hz2
  cases ho : okB N L with
  | false =>
    have HO := Lib.hid ho
    clear ho
    go_enter Try.func50, Try.ntmps50
    go_wp2_with fail
    refine (specOk_any N A n c L HN.out _ (by omega) (K1.out.bl (by repeat' (first | exact Bl.refl _ | with_reducible assumption | with_reducible refine Bl.drew_ ?_ | with_reducible refine Bl.drewN_ ?_ _ | with_reducible refine Bl.alloc_ ?_ _ | with_reducible refine Bl.trans_ ?_ (by assumption) | with_reducible refine Bl.trans_ ?_ (And.left (by assumption)))))).mono ?_
    rintro e w1 ⟨rfl, hb1⟩
    rw [HO.out]
    go_wp2
    go_ret
    refine ⟨_, rfl, ?_, BW.out _ hb1⟩
    rw [show betL N L s t m = [] from by unfold betL has2; rw [HO.out]; rfl]
    exact (O0.out _ hb1).low (by omega)
  | true =>
    have HO := Lib.hid ho
    have HNS := Lib.hid (nodeB_ok (v := s) ho)
    have HNT := Lib.hid (nodeB_ok (v := t) ho)
    by_cases hs : 0 ≤ s ∧ s < N
    · have hsd : decide (0 ≤ s ∧ s < N) = true := by simpa using hs
      have HS := Lib.hid hsd
      by_cases ht : 0 ≤ t ∧ t < N
      · have htd : decide (0 ≤ t ∧ t < N) = true := by simpa using ht
        have HT := Lib.hid htd
        clear hsd htd
        by_cases hmm : 0 ≤ m ∧ m ≤ 24000
        · have HI := Lib.hid (show inB m 0 24000 = true from by unfold inB; simpa using hmm)
          go_enter Try.func50, Try.ntmps50
          go_wp2_with fail
          refine (specOk_any N A n c L HN.out _ (by omega) (K1.out.bl (by repeat' (first | exact Bl.refl _ | with_reducible assumption | with_reducible refine Bl.drew_ ?_ | with_reducible refine Bl.drewN_ ?_ _ | with_reducible refine Bl.alloc_ ?_ _ | with_reducible refine Bl.trans_ ?_ (by assumption) | with_reducible refine Bl.trans_ ?_ (And.left (by assumption)))))).mono ?_
          rintro e w1 ⟨rfl, hb1⟩
          rw [HO.out]
          obtain ⟨q0, q1⟩ := BX.out _ hb1
          go_wp2_with fail
          refine (l1Node_any N s _ _).mono ?_
          rintro e w2 ⟨rfl, hb2⟩
          rw [HNS.out, HS.out]
          have hb2 := hb1.trans_ hb2
          obtain ⟨q0, q1⟩ := BX.out _ hb2
          go_wp2_with fail
          refine (l1Node_any N t _ _).mono ?_
          rintro e w3 ⟨rfl, hb3⟩
          rw [HNT.out, HT.out]
          have hb3 := hb2.trans_ hb3
          obtain ⟨q0, q1⟩ := BX.out _ hb3
          go_wp2_with fail
          refine (l1In_any m 0 24000 _).mono ?_
          rintro e w4 ⟨rfl, rfl⟩
          rw [HI.out]
          have hN24 := (okB_elim ho).2.1
          have hL150 := (okB_elim ho).2.2.1
          have HRO := Lib.hid (revL_ok ho)
          have HRL := Lib.hid (revL_len (okB_elim ho).2.2.2.2)
          have HD := Lib.hid (distL_is (s := s) (arcsIn_of_ok ho) hN24 hs.1 hs.2)
          have HE := Lib.hid (distL_is (s := t) (arcsIn_of_ok (revL_ok ho)) hN24 ht.1 ht.2)
          have HDT := Lib.hid (fun v => distL_top (s := s) ho hs.1 hs.2 v)
          have HET := Lib.hid (fun v => distL_top (s := t) (revL_ok ho) ht.1 ht.2 v)
          have HDl := Lib.hid (show (distL N L s).length = N.toNat from distL_len ho hs.1 hs.2)
          have HEl := Lib.hid (show (distL N (revL L) t).length = N.toNat from distL_len (revL_ok ho) ht.1 ht.2)
          have HV := Lib.hid (show betL N L s t m = withinD N (distL N L s) (distL N (revL L) t) m from by
            unfold betL withinL
            rw [if_pos (by rw [Bool.and_eq_true]; exact ⟨by unfold has2; rw [HO.out, Bool.true_and, decide_eq_true_eq]; exact ⟨hs, ht⟩, by simpa using hmm⟩)])
          go_wp2_with fail
          refine (l3Dist_any N s A n c L HN.out HO.out hs.1 hs.2 _ hm (K1.out.bl (BW.out _ hb3))).mono ?_
          rintro e w4 ⟨v4, rfl, hv4, hb4⟩
          obtain ⟨A4, c4, rfl, -, hi4, -, lo4⟩ := OwnN.shape hv4
          have LO4 := Lib.hid (show ∀ g, blockOf A4 = some g → w.heap.size + 1 < g from fun g hg => by have := lo4 g hg; have := hb3.size; simp at this; omega)
          have J4 := Lib.hid hi4
          have hb4 := hb3.trans_ hb4
          obtain ⟨q0, q1⟩ := BX.out _ hb4
          clear hv4 hi4
          go_wp2_with fail
          refine (l1Reverse_any N A n c L HN.out _ hm (K1.out.bl (BW.out _ hb4))).mono ?_
          rintro e w5 ⟨v5, rfl, hv5, hb5⟩
          obtain ⟨A5, c5, rfl, ha5, -⟩ := hv5.shape
          have J5 := Lib.hid ha5
          have JJ5 := Lib.hid (J4.out.bl hb5)
          have hb5 := hb4.trans_ hb5
          clear hv5 ha5
          go_wp2_with fail
          refine (l3Dist_any N t A5 (revL L).length c5 (revL L) rfl HRO.out ht.1 ht.2 _ (by rw [HRL.out]; omega) J5.out).mono ?_
          rintro e w6 ⟨v6, rfl, hv6, hb6⟩
          obtain ⟨A6, c6, rfl, -, hi6, -, lo6⟩ := OwnN.shape hv6
          have LO6 := Lib.hid (show ∀ g, blockOf A6 = some g → w.heap.size + 1 < g from fun g hg => by have := lo6 g hg; have := hb5.size; simp at this; omega)
          have J6 := Lib.hid hi6
          have JJ6 := Lib.hid (JJ5.out.bl hb6)
          have hb6 := hb5.trans_ hb6
          have O6 := Lib.hid (O0.out _ hb6)
          have P6 := Lib.hid hb6
          clear hv6 hi6 q0 q1 hb1 hb2 hb3 hb4 hb5 hb6 ho
          obtain ⟨k, rfl⟩ : ∃ k : Nat, N = k := ⟨N.toNat, by omega⟩
          have hDl := HDl.out
          have hEl := HEl.out
          rw [Int.toNat_natCast] at hDl hEl
          obtain ⟨q, rfl⟩ : ∃ q : Nat, t = q := ⟨t.toNat, by omega⟩
          have hqk : q < k := by omega
          rw [hDl, hEl]
          generalize distL k L s = D at *
          generalize distL k (revL L) q = E at *
          go_wp2_with fail
          go_loopw [9, 12] (fun vv i wr => ∃ (j : Nat) (v : Value), j ≤ k ∧ v = vv ∧ i = .int .i64 j ∧ OwnN wr (w.heap.size + 1) v (withinK D E m j) ∧ Turn (fun i => i = w.heap.size + 1) w6 wr ∧ ∀ g, v.ownBlock = some g → g = w.heap.size + 1 ∨ w6.heap.size ≤ g) (fun _ i _ => k - (intOf i).toNat)
          case atStart => exact ⟨0, _, by omega, rfl, rfl, by rw [withinK_zero]; exact O6.out, Turn.refl _ _, fun g hg => by simp [Value.ownBlock] at hg; omega⟩
          case round =>
            obtain ⟨j, v, hj, rfl, rfl, hO, hT, hVO⟩ := hrel
            have O := Lib.hid hO
            have hG : Bl (w.alloc (.cells #[.int .i64 (k : Int), .slice A n c] 26)) wr := Turn.to_bl ((Bl.alloc_ (Bl.refl _) _).trans_ P6.out) hT (fun i e => by simp; omega)
            obtain ⟨q0, q1⟩ := box2 hG
            have T := Lib.hid hT
            have VO := Lib.hid hVO
            have hsz := hG.size
            simp only [World.size_alloc] at hsz
            have hszT := hT.size
            have hs6 := P6.out.size
            simp only [World.size_alloc] at hs6
            have hwl := withinK_len D E m j
            clear hO
            by_cases hlt : j < k
            · have i1 : (j : Int) < (k : Int) := by omega
              have hjD : j < D.length := by omega
              have hjE : j < E.length := by omega
              obtain ⟨g1, o1, rfl, hg1, hc1⟩ := (show IntsAt wr w6.heap.size A4 D from CellsAt.turn JJ6.out (Nat.le_refl _) hT (fun g hg _ e => by have := LO4.out g hg; omega)).cell (by omega)
              obtain ⟨g2, o2, rfl, hg2, hc2⟩ := (show IntsAt wr w6.heap.size A6 E from CellsAt.turn J6.out (Nat.le_refl _) hT (fun g hg _ e => by have := LO6.out g hg; omega)).cell (by omega)
              have p1 := hc1 j hjD
              have p2 := hc2 j hjE
              clear hc1 hc2
              have BY := Lib.hid (byB_at (m := m) hjD hjE)
              have YES := Lib.hid (fun h => withinK_yes (D := D) (E := E) (m := m) (k := j) h)
              have NO := Lib.hid (fun h => withinK_no (D := D) (E := E) (m := m) (k := j) h)
              have hd0 := HDT.out j
              have he0 := HET.out j
              rw [dAt_at hjD] at hd0
              rw [dAt_at hjE] at he0
              generalize D[j] = d at *
              generalize E[j] = e at *
              have j0 : (0 : Int) ≤ (j : Int) := by omega
              have a1 : IntKind.i64.wrap (d + e) = d + e := IntWalk.i64_in _ (by omega)
              clear hd0 he0
              by_cases h1 : 0 ≤ d
              · have b1 : decide (0 ≤ d) = true := by simpa using h1
                by_cases h2 : 0 ≤ e
                · have b2 : decide (0 ≤ e) = true := by simpa using h2
                  by_cases h3 : d + e ≤ m
                  · have b3 : decide (d + e ≤ m) = true := by simpa using h3
                    have HY := Lib.hid (YES.out (by rw [BY.out, decide_eq_true_eq]; exact ⟨h1, h2, h3⟩))
                    clear YES NO BY
                    go_wp2
                    go_quiet (fail)
                    go_wp2_with (at_builtin; refine wpList_append_any _ rfl (.tmp 73) (.tmp 75) _ rfl (w.heap.size + 1) 2 i0 _ 1 8 Try.underlying38 I0.out I1.out I2.out I3.out rfl (by decide) _ (withinK D E m j).length (csI (withinK D E m j)) rfl (World.ownsRow.alloc (OwnN.bl O.out (by first | exact Bl.refl _ | exact (Bl.refl _).drew_ | exact (Bl.refl _).drewN_ _)) _) (wr.heap.size + 1) (some ⟨wr.heap.size, 0, none⟩) 1 1 [.int .i64 (j : Int)] rfl ?c0 (by simp [Value.oneCell']) ?c3 ?c4 ?c5 ?_)
                    case c0 =>
                      refine ⟨rfl, fun _ => ⟨_, rfl, by show wr.heap.size < wr.heap.size + 1; omega, fun x u hj => ?_⟩⟩
                      match x, hj with
                      | 0, hj => simp at hj; subst hj; (try simp [Addr.add, go_sem]); (try exact cell_new_drewN _ _ _ _)
                      | (x + 1), hj => simp at hj
                    case c3 => unfold maxLen; omega
                    case c4 => omega
                    case c5 => simp; omega
                    intro v' w7 hown' hgrow hwh
                    have O7 := Lib.hid (OwnN.snoc (V := withinK D E m j) (x := (j : Int)) (n := (withinK D E m j).length) rfl (by simpa using hown'))
                    rw [← HY.out] at O7
                    have T7 : Hid (Turn (fun i => i = w.heap.size + 1) w6 w7) := by
                      refine Lib.hid (Turn.trans (T.out.bl ?_) (Turn.of_grown (S := fun i => v.ownBlock = some i) hgrow (fun i e => e)) (fun i hi e => by rcases VO.out i e with h | h; exact h; omega))
                      first | exact (Bl.refl wr).alloc_ _ | exact ((Bl.refl wr).alloc_ _).drew_ | exact ((Bl.refl wr).alloc_ _).drewN_ _
                    have VO7 := Lib.hid (show ∀ g, v'.ownBlock = some g → g = w.heap.size + 1 ∨ w6.heap.size ≤ g from fun g hg => by
                      rcases hwh with h | h
                      · exact VO.out g (by rw [← h]; exact hg)
                      · right; rw [h] at hg; injection hg with hg; have := T.out.size; (try simp only [World.size_alloc] at hg); first | omega | (have h2 : wr.heap.size + 1 = g := hg; omega))
                    clear hown' hgrow hwh
                    go_wp2
                    go_roundw
                    case rel => exact ⟨j + 1, _, by omega, rfl, by go_num, O7.out, T7.out, VO7.out⟩
                    case measure => simp [intOf]; omega
                  · have b3 : decide (d + e ≤ m) = false := by simpa using h3
                    have HY := Lib.hid (NO.out (by rw [BY.out, decide_eq_false_iff_not]; omega))
                    clear YES NO BY
                    go_wp2
                    go_quiet (fail)
                    go_wp2
                    go_roundw
                    case rel => exact ⟨j + 1, _, by omega, rfl, by go_num, by rw [HY.out]; exact OwnN.bl O.out (by repeat' (first | exact Bl.refl _ | with_reducible assumption | with_reducible refine Bl.drew_ ?_ | with_reducible refine Bl.drewN_ ?_ _ | with_reducible refine Bl.alloc_ ?_ _ | with_reducible refine Bl.trans_ ?_ (by assumption) | with_reducible refine Bl.trans_ ?_ (And.left (by assumption)))), T.out.bl (by repeat' (first | exact Bl.refl _ | with_reducible assumption | with_reducible refine Bl.drew_ ?_ | with_reducible refine Bl.drewN_ ?_ _ | with_reducible refine Bl.alloc_ ?_ _ | with_reducible refine Bl.trans_ ?_ (by assumption) | with_reducible refine Bl.trans_ ?_ (And.left (by assumption)))), VO.out⟩
                    case measure => simp [intOf]; omega
                · have b2 : decide (0 ≤ e) = false := by simpa using h2
                  have HY := Lib.hid (NO.out (by rw [BY.out, decide_eq_false_iff_not]; omega))
                  clear YES NO BY
                  go_wp2
                  go_quiet (fail)
                  go_wp2
                  go_roundw
                  case rel => exact ⟨j + 1, _, by omega, rfl, by go_num, by rw [HY.out]; exact OwnN.bl O.out (by repeat' (first | exact Bl.refl _ | with_reducible assumption | with_reducible refine Bl.drew_ ?_ | with_reducible refine Bl.drewN_ ?_ _ | with_reducible refine Bl.alloc_ ?_ _ | with_reducible refine Bl.trans_ ?_ (by assumption) | with_reducible refine Bl.trans_ ?_ (And.left (by assumption)))), T.out.bl (by repeat' (first | exact Bl.refl _ | with_reducible assumption | with_reducible refine Bl.drew_ ?_ | with_reducible refine Bl.drewN_ ?_ _ | with_reducible refine Bl.alloc_ ?_ _ | with_reducible refine Bl.trans_ ?_ (by assumption) | with_reducible refine Bl.trans_ ?_ (And.left (by assumption)))), VO.out⟩
                  case measure => simp [intOf]; omega
              · have b1 : decide (0 ≤ d) = false := by simpa using h1
                have HY := Lib.hid (NO.out (by rw [BY.out, decide_eq_false_iff_not]; omega))
                clear YES NO BY
                go_wp2
                go_quiet (fail)
                go_wp2
                go_roundw
                case rel => exact ⟨j + 1, _, by omega, rfl, by go_num, by rw [HY.out]; exact OwnN.bl O.out (by repeat' (first | exact Bl.refl _ | with_reducible assumption | with_reducible refine Bl.drew_ ?_ | with_reducible refine Bl.drewN_ ?_ _ | with_reducible refine Bl.alloc_ ?_ _ | with_reducible refine Bl.trans_ ?_ (by assumption) | with_reducible refine Bl.trans_ ?_ (And.left (by assumption)))), T.out.bl (by repeat' (first | exact Bl.refl _ | with_reducible assumption | with_reducible refine Bl.drew_ ?_ | with_reducible refine Bl.drewN_ ?_ _ | with_reducible refine Bl.alloc_ ?_ _ | with_reducible refine Bl.trans_ ?_ (by assumption) | with_reducible refine Bl.trans_ ?_ (And.left (by assumption)))), VO.out⟩
                case measure => simp [intOf]; omega
            · obtain rfl : j = k := by omega
              go_wp2
              go_ret
              refine ⟨_, rfl, ?_, (Bl.alloc_ (Bl.refl w) _).trans_ hG⟩
              rw [HV.out, show withinD (j : Int) D E m = withinK D E m j from by rw [← withinK_all]; simp]
              exact O.out.low (by omega)
        · have HI := Lib.hid (show inB m 0 24000 = false from by unfold inB; simpa using hmm)
          go_enter Try.func50, Try.ntmps50
          go_wp2_with fail
          refine (specOk_any N A n c L HN.out _ (by omega) (K1.out.bl (by repeat' (first | exact Bl.refl _ | with_reducible assumption | with_reducible refine Bl.drew_ ?_ | with_reducible refine Bl.drewN_ ?_ _ | with_reducible refine Bl.alloc_ ?_ _ | with_reducible refine Bl.trans_ ?_ (by assumption) | with_reducible refine Bl.trans_ ?_ (And.left (by assumption)))))).mono ?_
          rintro e w1 ⟨rfl, hb1⟩
          rw [HO.out]
          obtain ⟨q0, q1⟩ := BX.out _ hb1
          go_wp2_with fail
          refine (l1Node_any N s _ _).mono ?_
          rintro e w2 ⟨rfl, hb2⟩
          rw [HNS.out, HS.out]
          have hb2 := hb1.trans_ hb2
          obtain ⟨q0, q1⟩ := BX.out _ hb2
          go_wp2_with fail
          refine (l1Node_any N t _ _).mono ?_
          rintro e w3 ⟨rfl, hb3⟩
          rw [HNT.out, HT.out]
          have hb3 := hb2.trans_ hb3
          obtain ⟨q0, q1⟩ := BX.out _ hb3
          go_wp2_with fail
          refine (l1In_any m 0 24000 _).mono ?_
          rintro e w4 ⟨rfl, rfl⟩
          rw [HI.out]
          go_wp2
          go_ret
          refine ⟨_, rfl, ?_, BW.out _ hb3⟩
          rw [show betL N L s t m = [] from by unfold betL; rw [if_neg (by rw [Bool.and_eq_true]; intro h; exact hmm (by simpa using h.2))]]
          exact (O0.out _ hb3).low (by omega)
      · have htd : decide (0 ≤ t ∧ t < N) = false := by simpa using ht
        have HT := Lib.hid htd
        clear hsd htd
        go_enter Try.func50, Try.ntmps50
        go_wp2_with fail
        refine (specOk_any N A n c L HN.out _ (by omega) (K1.out.bl (by repeat' (first | exact Bl.refl _ | with_reducible assumption | with_reducible refine Bl.drew_ ?_ | with_reducible refine Bl.drewN_ ?_ _ | with_reducible refine Bl.alloc_ ?_ _ | with_reducible refine Bl.trans_ ?_ (by assumption) | with_reducible refine Bl.trans_ ?_ (And.left (by assumption)))))).mono ?_
        rintro e w1 ⟨rfl, hb1⟩
        rw [HO.out]
        obtain ⟨q0, q1⟩ := BX.out _ hb1
        go_wp2_with fail
        refine (l1Node_any N s _ _).mono ?_
        rintro e w2 ⟨rfl, hb2⟩
        rw [HNS.out, HS.out]
        have hb2 := hb1.trans_ hb2
        obtain ⟨q0, q1⟩ := BX.out _ hb2
        go_wp2_with fail
        refine (l1Node_any N t _ _).mono ?_
        rintro e w3 ⟨rfl, hb3⟩
        rw [HNT.out, HT.out]
        have hb3 := hb2.trans_ hb3
        obtain ⟨q0, q1⟩ := BX.out _ hb3
        go_wp2
        go_ret
        refine ⟨_, rfl, ?_, BW.out _ hb3⟩
        rw [show betL N L s t m = [] from by unfold betL; rw [if_neg (by rw [Bool.and_eq_true]; intro h; exact ht (has2_of h.1).2.2)]]
        exact (O0.out _ hb3).low (by omega)
    · have hsd : decide (0 ≤ s ∧ s < N) = false := by simpa using hs
      have HS := Lib.hid hsd
      clear hsd
      go_enter Try.func50, Try.ntmps50
      go_wp2_with fail
      refine (specOk_any N A n c L HN.out _ (by omega) (K1.out.bl (by repeat' (first | exact Bl.refl _ | with_reducible assumption | with_reducible refine Bl.drew_ ?_ | with_reducible refine Bl.drewN_ ?_ _ | with_reducible refine Bl.alloc_ ?_ _ | with_reducible refine Bl.trans_ ?_ (by assumption) | with_reducible refine Bl.trans_ ?_ (And.left (by assumption)))))).mono ?_
      rintro e w1 ⟨rfl, hb1⟩
      rw [HO.out]
      obtain ⟨q0, q1⟩ := BX.out _ hb1
      go_wp2_with fail
      refine (l1Node_any N s _ _).mono ?_
      rintro e w2 ⟨rfl, hb2⟩
      rw [HNS.out, HS.out]
      have hb2 := hb1.trans_ hb2
      obtain ⟨q0, q1⟩ := BX.out _ hb2
      go_wp2
      go_ret
      refine ⟨_, rfl, ?_, BW.out _ hb2⟩
      rw [show betL N L s t m = [] from by unfold betL; rw [if_neg (by rw [Bool.and_eq_true]; intro h; exact hs (has2_of h.1).2.1)]]
      exact (O0.out _ hb2).low (by omega)

set_option maxRecDepth 100000 in
set_option maxHeartbeats 4000000 in
theorem specOnShortest_any (N s t : Int) (A : Option Addr) (n c : Nat) (L : List Arc3) (hn : n = L.length) (hc : n ≤ c) (w : World) (hm : n ≤ 1048576) (H1 : ArcsAt w w.heap.size A L) :
    Calls Try.prog 36 #[.agg #[.int .i64 N, .slice A n c], .int .i64 s, .int .i64 t] w (NumsMade (onL N L s t) w) := by
  obtain ⟨i0, hi, hz0, hz1, hz2⟩ := info_parts infoInt
  have I0 := Lib.hid hi
  have I1 := Lib.hid hz0
  have I2 := Lib.hid hz1
  have I3 := Lib.hid hz2
  have K1 := Lib.hid H1
  have HN := Lib.hid hn
  have O0 := Lib.hid (show ∀ wx, Bl ((w.alloc (.cells #[.int .i64 N, .slice A n c] 26)).alloc (.cells #[] 2)) wx → OwnN wx (w.heap.size + 1) (.slice (some ⟨w.heap.size + 1, 0, none⟩) 0 0) [] from fun wx hb => by
    have h := World.ownsRow_made (base := w.heap.size + 1) (e := 2) (size := 1) (w.alloc (.cells #[.int .i64 N, .slice A n c] 26)) #[] 0 (by simp) (by unfold maxLen; omega) rfl
    rw [World.size_alloc] at h
    exact OwnN.bl h hb)
  have BX := Lib.hid (show ∀ wx, Bl ((w.alloc (.cells #[.int .i64 N, .slice A n c] 26)).alloc (.cells #[] 2)) wx → wx.cell? ⟨w.heap.size, 0, none⟩ = some (.int .i64 N) ∧ wx.cell? ⟨w.heap.size, 1, none⟩ = some (.slice A n c) from fun wx hb => box2 ((Bl.alloc_ (Bl.refl (w.alloc (.cells #[.int .i64 N, .slice A n c] 26))) _).trans_ hb))
  have BW := Lib.hid (show ∀ wx, Bl ((w.alloc (.cells #[.int .i64 N, .slice A n c] 26)).alloc (.cells #[] 2)) wx → Bl w wx from fun wx hb => (Bl.alloc_ (Bl.alloc_ (Bl.refl w) _) _).trans_ hb)
  clear H1 hn hi hz0 hz1 hz2
  cases ho : okB N L with
  | false =>
    have HO := Lib.hid ho
    clear ho
    go_enter Try.func36, Try.ntmps36
    go_wp2_with fail
    refine (specOk_any N A n c L HN.out _ (by omega) (K1.out.bl (by repeat' (first | exact Bl.refl _ | with_reducible assumption | with_reducible refine Bl.drew_ ?_ | with_reducible refine Bl.drewN_ ?_ _ | with_reducible refine Bl.alloc_ ?_ _ | with_reducible refine Bl.trans_ ?_ (by assumption) | with_reducible refine Bl.trans_ ?_ (And.left (by assumption)))))).mono ?_
    rintro e w1 ⟨rfl, hb1⟩
    rw [HO.out]
    go_wp2
    go_ret
    refine ⟨_, rfl, ?_, BW.out _ hb1⟩
    rw [show onL N L s t = [] from by unfold onL has2; rw [HO.out]; rfl]
    exact (O0.out _ hb1).low (by omega)
  | true =>
    have HO := Lib.hid ho
    have HNS := Lib.hid (nodeB_ok (v := s) ho)
    have HNT := Lib.hid (nodeB_ok (v := t) ho)
    by_cases hs : 0 ≤ s ∧ s < N
    · have hsd : decide (0 ≤ s ∧ s < N) = true := by simpa using hs
      have HS := Lib.hid hsd
      by_cases ht : 0 ≤ t ∧ t < N
      · have htd : decide (0 ≤ t ∧ t < N) = true := by simpa using ht
        have HT := Lib.hid htd
        clear hsd htd
        go_enter Try.func36, Try.ntmps36
        go_wp2_with fail
        refine (specOk_any N A n c L HN.out _ (by omega) (K1.out.bl (by repeat' (first | exact Bl.refl _ | with_reducible assumption | with_reducible refine Bl.drew_ ?_ | with_reducible refine Bl.drewN_ ?_ _ | with_reducible refine Bl.alloc_ ?_ _ | with_reducible refine Bl.trans_ ?_ (by assumption) | with_reducible refine Bl.trans_ ?_ (And.left (by assumption)))))).mono ?_
        rintro e w1 ⟨rfl, hb1⟩
        rw [HO.out]
        obtain ⟨q0, q1⟩ := BX.out _ hb1
        go_wp2_with fail
        refine (l1Node_any N s _ _).mono ?_
        rintro e w2 ⟨rfl, hb2⟩
        rw [HNS.out, HS.out]
        have hb2 := hb1.trans_ hb2
        obtain ⟨q0, q1⟩ := BX.out _ hb2
        go_wp2_with fail
        refine (l1Node_any N t _ _).mono ?_
        rintro e w3 ⟨rfl, hb3⟩
        rw [HNT.out, HT.out]
        have hb3 := hb2.trans_ hb3
        obtain ⟨q0, q1⟩ := BX.out _ hb3
        have hN24 := (okB_elim ho).2.1
        have hL150 := (okB_elim ho).2.2.1
        have HRO := Lib.hid (revL_ok ho)
        have HRL := Lib.hid (revL_len (okB_elim ho).2.2.2.2)
        have HD := Lib.hid (distL_is (s := s) (arcsIn_of_ok ho) hN24 hs.1 hs.2)
        have HE := Lib.hid (distL_is (s := t) (arcsIn_of_ok (revL_ok ho)) hN24 ht.1 ht.2)
        have HDT := Lib.hid (fun v => distL_top (s := s) ho hs.1 hs.2 v)
        have HET := Lib.hid (fun v => distL_top (s := t) (revL_ok ho) ht.1 ht.2 v)
        have HDl := Lib.hid (show (distL N L s).length = N.toNat from distL_len ho hs.1 hs.2)
        have HEl := Lib.hid (show (distL N (revL L) t).length = N.toNat from distL_len (revL_ok ho) ht.1 ht.2)
        have HV := Lib.hid (show onL N L s t = withinD N (distL N L s) (distL N (revL L) t) (dAt (distL N L s) t) from by
          unfold onL withinL
          rw [if_pos (by unfold has2; rw [HO.out, Bool.true_and, decide_eq_true_eq]; exact ⟨hs, ht⟩)])
        go_wp2_with fail
        refine (l3Dist_any N s A n c L HN.out HO.out hs.1 hs.2 _ hm (K1.out.bl (BW.out _ hb3))).mono ?_
        rintro e w4 ⟨v4, rfl, hv4, hb4⟩
        obtain ⟨A4, c4, rfl, -, hi4, -, lo4⟩ := OwnN.shape hv4
        have LO4 := Lib.hid (show ∀ g, blockOf A4 = some g → w.heap.size + 1 < g from fun g hg => by have := lo4 g hg; have := hb3.size; simp at this; omega)
        have J4 := Lib.hid hi4
        have hb4 := hb3.trans_ hb4
        obtain ⟨q0, q1⟩ := BX.out _ hb4
        clear hv4 hi4
        go_wp2_with fail
        refine (l1Reverse_any N A n c L HN.out _ hm (K1.out.bl (BW.out _ hb4))).mono ?_
        rintro e w5 ⟨v5, rfl, hv5, hb5⟩
        obtain ⟨A5, c5, rfl, ha5, -⟩ := hv5.shape
        have J5 := Lib.hid ha5
        have JJ5 := Lib.hid (J4.out.bl hb5)
        have hb5 := hb4.trans_ hb5
        clear hv5 ha5
        go_wp2_with fail
        refine (l3Dist_any N t A5 (revL L).length c5 (revL L) rfl HRO.out ht.1 ht.2 _ (by rw [HRL.out]; omega) J5.out).mono ?_
        rintro e w6 ⟨v6, rfl, hv6, hb6⟩
        obtain ⟨A6, c6, rfl, -, hi6, -, lo6⟩ := OwnN.shape hv6
        have LO6 := Lib.hid (show ∀ g, blockOf A6 = some g → w.heap.size + 1 < g from fun g hg => by have := lo6 g hg; have := hb5.size; simp at this; omega)
        have J6 := Lib.hid hi6
        have JJ6 := Lib.hid (JJ5.out.bl hb6)
        have hb6 := hb5.trans_ hb6
        have O6 := Lib.hid (O0.out _ hb6)
        have P6 := Lib.hid hb6
        clear hv6 hi6 q0 q1 hb1 hb2 hb3 hb4 hb5 hb6 ho
        obtain ⟨k, rfl⟩ : ∃ k : Nat, N = k := ⟨N.toNat, by omega⟩
        have hDl := HDl.out
        have hEl := HEl.out
        rw [Int.toNat_natCast] at hDl hEl
        obtain ⟨q, rfl⟩ : ∃ q : Nat, t = q := ⟨t.toNat, by omega⟩
        have hqk : q < k := by omega
        rw [hDl, hEl]
        generalize distL k L s = D at *
        generalize distL k (revL L) q = E at *
        have hqD : q < D.length := by omega
        have hdq := dAt_at hqD
        obtain ⟨dt, hdt'⟩ : ∃ dt, D[q] = dt := ⟨_, rfl⟩
        have hDT := Lib.hid hdt'
        rw [hdq, hdt'] at HV
        have BON := Lib.hid (show ∀ j : Nat, (j : Int) < (k : Int) → byB D E dt (j : Int) = decide (0 ≤ dAt D j ∧ 0 ≤ dAt E j ∧ dAt D j + dAt E j = dt) from fun j hj => by
          have := byB_on HO.out HD.out HE.out (v := (j : Int)) (by omega) hj
          rw [hdq, hdt'] at this
          exact this)
        clear hdq hdt'
        by_cases hdt : 0 ≤ dt
        · go_wp2_with fail
          go_loopw [7, 10] (fun vv i wr => ∃ (j : Nat) (v : Value), j ≤ k ∧ v = vv ∧ i = .int .i64 j ∧ OwnN wr (w.heap.size + 1) v (withinK D E dt j) ∧ Turn (fun i => i = w.heap.size + 1) w6 wr ∧ ∀ g, v.ownBlock = some g → g = w.heap.size + 1 ∨ w6.heap.size ≤ g) (fun _ i _ => k - (intOf i).toNat)
          case atStart => exact ⟨0, _, by omega, rfl, rfl, by rw [withinK_zero]; exact O6.out, Turn.refl _ _, fun g hg => by simp [Value.ownBlock] at hg; omega⟩
          case round =>
            obtain ⟨j, v, hj, rfl, rfl, hO, hT, hVO⟩ := hrel
            have O := Lib.hid hO
            have hG : Bl (w.alloc (.cells #[.int .i64 (k : Int), .slice A n c] 26)) wr := Turn.to_bl ((Bl.alloc_ (Bl.refl _) _).trans_ P6.out) hT (fun i e => by simp; omega)
            obtain ⟨q0, q1⟩ := box2 hG
            have T := Lib.hid hT
            have VO := Lib.hid hVO
            have hsz := hG.size
            simp only [World.size_alloc] at hsz
            have hszT := hT.size
            have hs6 := P6.out.size
            simp only [World.size_alloc] at hs6
            have hwl := withinK_len D E dt j
            clear hO
            by_cases hlt : j < k
            · have i1 : (j : Int) < (k : Int) := by omega
              have hjD : j < D.length := by omega
              have hjE : j < E.length := by omega
              obtain ⟨g1, o1, rfl, hg1, hc1⟩ := (show IntsAt wr w6.heap.size A4 D from CellsAt.turn JJ6.out (Nat.le_refl _) hT (fun g hg _ e => by have := LO4.out g hg; omega)).cell (by omega)
              obtain ⟨g2, o2, rfl, hg2, hc2⟩ := (show IntsAt wr w6.heap.size A6 E from CellsAt.turn J6.out (Nat.le_refl _) hT (fun g hg _ e => by have := LO6.out g hg; omega)).cell (by omega)
              have p1 := hc1 j hjD
              have p2 := hc2 j hjE
              have p3 := hc1 q hqD
              rw [hDT.out] at p3
              have BY := Lib.hid (show byB D E dt (j : Int) = decide (0 ≤ D[j] ∧ 0 ≤ E[j] ∧ D[j] + E[j] = dt) from by rw [BON.out j i1, dAt_at hjD, dAt_at hjE])
              clear hc1 hc2
              have YES := Lib.hid (fun h => withinK_yes (D := D) (E := E) (m := dt) (k := j) h)
              have NO := Lib.hid (fun h => withinK_no (D := D) (E := E) (m := dt) (k := j) h)
              have hd0 := HDT.out j
              have he0 := HET.out j
              rw [dAt_at hjD] at hd0
              rw [dAt_at hjE] at he0
              generalize D[j] = d at *
              generalize E[j] = e at *
              have j0 : (0 : Int) ≤ (j : Int) := by omega
              have q2 : (0 : Int) ≤ (q : Int) := by omega
              have q3 : (q : Int) < (k : Int) := by omega
              have q4 : q < k := by omega
              have bt : decide (0 ≤ dt) = true := by simpa using hdt
              have a1 : IntKind.i64.wrap (d + e) = d + e := IntWalk.i64_in _ (by omega)
              clear hd0 he0
              by_cases h1 : 0 ≤ d
              · have b1 : decide (0 ≤ d) = true := by simpa using h1
                by_cases h2 : 0 ≤ e
                · have b2 : decide (0 ≤ e) = true := by simpa using h2
                  by_cases h3 : d + e = dt
                  · have b3 : ((d + e) == dt) = true := by simpa using h3
                    have a2 : IntKind.i64.wrap dt = dt := by rw [← h3]; exact a1
                    have b4 : (dt == dt) = true := by simp
                    have HY := Lib.hid (YES.out (by rw [BY.out, decide_eq_true_eq]; exact ⟨h1, h2, h3⟩))
                    clear YES NO BY
                    go_wp2
                    go_quiet (fail)
                    go_wp2_with (at_builtin; refine wpList_append_any _ rfl (.tmp 76) (.tmp 78) _ rfl (w.heap.size + 1) 2 i0 _ 1 8 Try.underlying38 I0.out I1.out I2.out I3.out rfl (by decide) _ (withinK D E dt j).length (csI (withinK D E dt j)) rfl (World.ownsRow.alloc (OwnN.bl O.out (by first | exact Bl.refl _ | exact (Bl.refl _).drew_ | exact (Bl.refl _).drewN_ _)) _) (wr.heap.size + 1) (some ⟨wr.heap.size, 0, none⟩) 1 1 [.int .i64 (j : Int)] rfl ?c0 (by simp [Value.oneCell']) ?c3 ?c4 ?c5 ?_)
                    case c0 =>
                      refine ⟨rfl, fun _ => ⟨_, rfl, by show wr.heap.size < wr.heap.size + 1; omega, fun x u hj => ?_⟩⟩
                      match x, hj with
                      | 0, hj => simp at hj; subst hj; (try simp [Addr.add, go_sem]); (try exact cell_new_drewN _ _ _ _)
                      | (x + 1), hj => simp at hj
                    case c3 => unfold maxLen; omega
                    case c4 => omega
                    case c5 => simp; omega
                    intro v' w7 hown' hgrow hwh
                    have O7 := Lib.hid (OwnN.snoc (V := withinK D E dt j) (x := (j : Int)) (n := (withinK D E dt j).length) rfl (by simpa using hown'))
                    rw [← HY.out] at O7
                    have T7 : Hid (Turn (fun i => i = w.heap.size + 1) w6 w7) := by
                      refine Lib.hid (Turn.trans (T.out.bl ?_) (Turn.of_grown (S := fun i => v.ownBlock = some i) hgrow (fun i e => e)) (fun i hi e => by rcases VO.out i e with h | h; exact h; omega))
                      first | exact (Bl.refl wr).alloc_ _ | exact ((Bl.refl wr).alloc_ _).drew_ | exact ((Bl.refl wr).alloc_ _).drewN_ _
                    have VO7 := Lib.hid (show ∀ g, v'.ownBlock = some g → g = w.heap.size + 1 ∨ w6.heap.size ≤ g from fun g hg => by
                      rcases hwh with h | h
                      · exact VO.out g (by rw [← h]; exact hg)
                      · right; rw [h] at hg; injection hg with hg; have := T.out.size; (try simp only [World.size_alloc] at hg); first | omega | (have h2 : wr.heap.size + 1 = g := hg; omega))
                    clear hown' hgrow hwh
                    go_wp2
                    go_roundw
                    case rel => exact ⟨j + 1, _, by omega, rfl, by go_num, O7.out, T7.out, VO7.out⟩
                    case measure => simp [intOf]; omega
                  · have b3 : ((d + e) == dt) = false := by simpa using h3
                    have HY := Lib.hid (NO.out (by rw [BY.out, decide_eq_false_iff_not]; omega))
                    clear YES NO BY
                    go_wp2
                    go_quiet (fail)
                    go_wp2
                    go_roundw
                    case rel => exact ⟨j + 1, _, by omega, rfl, by go_num, by rw [HY.out]; exact OwnN.bl O.out (by repeat' (first | exact Bl.refl _ | with_reducible assumption | with_reducible refine Bl.drew_ ?_ | with_reducible refine Bl.drewN_ ?_ _ | with_reducible refine Bl.alloc_ ?_ _ | with_reducible refine Bl.trans_ ?_ (by assumption) | with_reducible refine Bl.trans_ ?_ (And.left (by assumption)))), T.out.bl (by repeat' (first | exact Bl.refl _ | with_reducible assumption | with_reducible refine Bl.drew_ ?_ | with_reducible refine Bl.drewN_ ?_ _ | with_reducible refine Bl.alloc_ ?_ _ | with_reducible refine Bl.trans_ ?_ (by assumption) | with_reducible refine Bl.trans_ ?_ (And.left (by assumption)))), VO.out⟩
                    case measure => simp [intOf]; omega
                · have b2 : decide (0 ≤ e) = false := by simpa using h2
                  have HY := Lib.hid (NO.out (by rw [BY.out, decide_eq_false_iff_not]; omega))
                  clear YES NO BY
                  go_wp2
                  go_quiet (fail)
                  go_wp2
                  go_roundw
                  case rel => exact ⟨j + 1, _, by omega, rfl, by go_num, by rw [HY.out]; exact OwnN.bl O.out (by repeat' (first | exact Bl.refl _ | with_reducible assumption | with_reducible refine Bl.drew_ ?_ | with_reducible refine Bl.drewN_ ?_ _ | with_reducible refine Bl.alloc_ ?_ _ | with_reducible refine Bl.trans_ ?_ (by assumption) | with_reducible refine Bl.trans_ ?_ (And.left (by assumption)))), T.out.bl (by repeat' (first | exact Bl.refl _ | with_reducible assumption | with_reducible refine Bl.drew_ ?_ | with_reducible refine Bl.drewN_ ?_ _ | with_reducible refine Bl.alloc_ ?_ _ | with_reducible refine Bl.trans_ ?_ (by assumption) | with_reducible refine Bl.trans_ ?_ (And.left (by assumption)))), VO.out⟩
                  case measure => simp [intOf]; omega
              · have b1 : decide (0 ≤ d) = false := by simpa using h1
                have HY := Lib.hid (NO.out (by rw [BY.out, decide_eq_false_iff_not]; omega))
                clear YES NO BY
                go_wp2
                go_quiet (fail)
                go_wp2
                go_roundw
                case rel => exact ⟨j + 1, _, by omega, rfl, by go_num, by rw [HY.out]; exact OwnN.bl O.out (by repeat' (first | exact Bl.refl _ | with_reducible assumption | with_reducible refine Bl.drew_ ?_ | with_reducible refine Bl.drewN_ ?_ _ | with_reducible refine Bl.alloc_ ?_ _ | with_reducible refine Bl.trans_ ?_ (by assumption) | with_reducible refine Bl.trans_ ?_ (And.left (by assumption)))), T.out.bl (by repeat' (first | exact Bl.refl _ | with_reducible assumption | with_reducible refine Bl.drew_ ?_ | with_reducible refine Bl.drewN_ ?_ _ | with_reducible refine Bl.alloc_ ?_ _ | with_reducible refine Bl.trans_ ?_ (by assumption) | with_reducible refine Bl.trans_ ?_ (And.left (by assumption)))), VO.out⟩
                case measure => simp [intOf]; omega
            · obtain rfl : j = k := by omega
              go_wp2
              go_ret
              refine ⟨_, rfl, ?_, (Bl.alloc_ (Bl.refl w) _).trans_ hG⟩
              rw [HV.out, show withinD (j : Int) D E dt = withinK D E dt j from by rw [← withinK_all]; simp]
              exact O.out.low (by omega)
        · have bt : decide (0 ≤ dt) = false := by simpa using hdt
          have HVN := Lib.hid (withinD_none (N := (k : Int)) (D := D) (E := E) (m := dt) (by omega))
          go_wp2_with fail
          go_loopw [7, 10] (fun vv i wr => vv = .slice (some ⟨w.heap.size + 1, 0, none⟩) 0 0 ∧ i = .int .i64 0 ∧ wr = w6) (fun _ i _ => k - (intOf i).toNat)
          case atStart => exact ⟨rfl, rfl, rfl⟩
          case round =>
            obtain ⟨rfl, rfl, rfl⟩ := hrel
            obtain ⟨q0, q1⟩ := BX.out _ P6.out
            obtain ⟨g1, o1, rfl, hg1, hc1⟩ := JJ6.out.cell (by omega)
            have p3 := hc1 q hqD
            rw [hDT.out] at p3
            clear hc1
            have i1 : (0 : Int) < (k : Int) := by omega
            have q2 : (0 : Int) ≤ (q : Int) := by omega
            have q3 : (q : Int) < (k : Int) := by omega
            have q4 : q < k := by omega
            go_wp2
            go_ret
            refine ⟨_, rfl, ?_, BW.out _ P6.out⟩
            rw [HV.out, HVN.out]
            exact (O0.out _ P6.out).low (by omega)
      · have htd : decide (0 ≤ t ∧ t < N) = false := by simpa using ht
        have HT := Lib.hid htd
        clear hsd htd
        go_enter Try.func36, Try.ntmps36
        go_wp2_with fail
        refine (specOk_any N A n c L HN.out _ (by omega) (K1.out.bl (by repeat' (first | exact Bl.refl _ | with_reducible assumption | with_reducible refine Bl.drew_ ?_ | with_reducible refine Bl.drewN_ ?_ _ | with_reducible refine Bl.alloc_ ?_ _ | with_reducible refine Bl.trans_ ?_ (by assumption) | with_reducible refine Bl.trans_ ?_ (And.left (by assumption)))))).mono ?_
        rintro e w1 ⟨rfl, hb1⟩
        rw [HO.out]
        obtain ⟨q0, q1⟩ := BX.out _ hb1
        go_wp2_with fail
        refine (l1Node_any N s _ _).mono ?_
        rintro e w2 ⟨rfl, hb2⟩
        rw [HNS.out, HS.out]
        have hb2 := hb1.trans_ hb2
        obtain ⟨q0, q1⟩ := BX.out _ hb2
        go_wp2_with fail
        refine (l1Node_any N t _ _).mono ?_
        rintro e w3 ⟨rfl, hb3⟩
        rw [HNT.out, HT.out]
        have hb3 := hb2.trans_ hb3
        obtain ⟨q0, q1⟩ := BX.out _ hb3
        go_wp2
        go_ret
        refine ⟨_, rfl, ?_, BW.out _ hb3⟩
        rw [show onL N L s t = [] from by unfold onL; rw [if_neg (by intro h; exact ht (has2_of h).2.2)]]
        exact (O0.out _ hb3).low (by omega)
    · have hsd : decide (0 ≤ s ∧ s < N) = false := by simpa using hs
      have HS := Lib.hid hsd
      clear hsd
      go_enter Try.func36, Try.ntmps36
      go_wp2_with fail
      refine (specOk_any N A n c L HN.out _ (by omega) (K1.out.bl (by repeat' (first | exact Bl.refl _ | with_reducible assumption | with_reducible refine Bl.drew_ ?_ | with_reducible refine Bl.drewN_ ?_ _ | with_reducible refine Bl.alloc_ ?_ _ | with_reducible refine Bl.trans_ ?_ (by assumption) | with_reducible refine Bl.trans_ ?_ (And.left (by assumption)))))).mono ?_
      rintro e w1 ⟨rfl, hb1⟩
      rw [HO.out]
      obtain ⟨q0, q1⟩ := BX.out _ hb1
      go_wp2_with fail
      refine (l1Node_any N s _ _).mono ?_
      rintro e w2 ⟨rfl, hb2⟩
      rw [HNS.out, HS.out]
      have hb2 := hb1.trans_ hb2
      obtain ⟨q0, q1⟩ := BX.out _ hb2
      go_wp2
      go_ret
      refine ⟨_, rfl, ?_, BW.out _ hb2⟩
      rw [show onL N L s t = [] from by unfold onL; rw [if_neg (by intro h; exact hs (has2_of h).2.1)]]
      exact (O0.out _ hb2).low (by omega)

end Go.Proofs.Ytdbjcojlcddhdaa

namespace Go.Proofs.Ytdbjcojlcddhdaa
open Go.Shelf

def sortArcs_ren : Go.Shelf.Ren := ⟨fun | 6 => 69 | 15 => 97 | 14 => 96 | 28 => 119 | 29 => 120 | 20 => 111 | 21 => 112 | 22 => 113 | 23 => 114 | 24 => 115 | 25 => 116 | 26 => 117 | 27 => 118 | 46 => 124 | 47 => 125 | 48 => 126 | 49 => 127 | 50 => 128 | 57 => 130 | n => n, fun | 22 => 24 | 24 => 51 | 25 => 79 | 3 => 3 | 39 => 107 | 0 => 0 | 53 => 132 | 55 => 120 | 4 => 4 | 46 => 126 | 45 => 125 | 50 => 68 | 5 => 5 | 9 => 9 | 66 => 138 | 70 => 141 | 76 => 145 | 77 => 146 | n => n, fun | n => n⟩
theorem sortArcs : Go.Proofs.SlLaysF0.n6 Try.prog sortArcs_ren := {
  mixed := by kernel_rfl
  f6 := ⟨Try.f69.name, by decide, Try.func69.trans (congrArg some (by kernel_rfl))⟩
  f14 := ⟨Try.f96.name, by decide, Try.func96.trans (congrArg some (by kernel_rfl))⟩
  f15 := Try.func97.trans (congrArg some (by kernel_rfl))
  f20 := ⟨Try.f111.name, by decide, Try.func111.trans (congrArg some (by kernel_rfl))⟩
  f21 := ⟨Try.f112.name, by decide, Try.func112.trans (congrArg some (by kernel_rfl))⟩
  f22 := ⟨Try.f113.name, by decide, Try.func113.trans (congrArg some (by kernel_rfl))⟩
  f23 := ⟨Try.f114.name, by decide, Try.func114.trans (congrArg some (by kernel_rfl))⟩
  f24 := ⟨Try.f115.name, by decide, Try.func115.trans (congrArg some (by kernel_rfl))⟩
  f25 := ⟨Try.f116.name, by decide, Try.func116.trans (congrArg some (by kernel_rfl))⟩
  f26 := ⟨Try.f117.name, by decide, Try.func117.trans (congrArg some (by kernel_rfl))⟩
  f27 := ⟨Try.f118.name, by decide, Try.func118.trans (congrArg some (by kernel_rfl))⟩
  f28 := Try.func119.trans (congrArg some (by kernel_rfl))
  f29 := Try.func120.trans (congrArg some (by kernel_rfl))
  f46 := ⟨Try.f124.name, by decide, Try.func124.trans (congrArg some (by kernel_rfl))⟩
  f47 := Try.func125.trans (congrArg some (by kernel_rfl))
  f48 := Try.func126.trans (congrArg some (by kernel_rfl))
  f49 := ⟨Try.f127.name, by decide, Try.func127.trans (congrArg some (by kernel_rfl))⟩
  f50 := ⟨Try.f128.name, by decide, Try.func128.trans (congrArg some (by kernel_rfl))⟩
  f57 := ⟨Try.f130.name, by decide, Try.func130.trans (congrArg some (by kernel_rfl))⟩
  t0 := Try.underlying0
  a0 := Try.isAgg0
  z0 := Try.sizeOf0
  v0 := Try.zeroValue0
  t3 := Try.underlying3
  a3 := Try.isAgg3
  z3 := Try.sizeOf3
  v3 := Try.zeroValue3
  t4 := Try.underlying4
  a4 := Try.isAgg4
  z4 := Try.sizeOf4
  v4 := Try.zeroValue4
  t5 := Try.underlying5
  a5 := Try.isAgg5
  z5 := Try.sizeOf5
  v5 := Try.zeroValue5
  t9 := Try.underlying9
  a9 := Try.isAgg9
  z9 := Try.sizeOf9
  v9 := Try.zeroValue9
  t22 := Try.underlying24
  a22 := Try.isAgg24
  z22 := Try.sizeOf24
  v22 := Try.zeroValue24
  t25 := Try.underlying79
  a25 := Try.isAgg79
  z25 := Try.sizeOf79
  v25 := Try.zeroValue79
  t39 := Try.underlying107
  a39 := Try.isAgg107
  z39 := Try.sizeOf107
  v39 := Try.zeroValue107
  t45 := Try.underlying125
  a45 := Try.isAgg125
  z45 := Try.sizeOf125
  v45 := Try.zeroValue125
  t46 := Try.underlying126
  a46 := Try.isAgg126
  z46 := Try.sizeOf126
  v46 := Try.zeroValue126
  t50 := Try.underlying68
  a50 := Try.isAgg68
  z50 := Try.sizeOf68
  v50 := Try.zeroValue68
  t53 := Try.underlying132
  a53 := Try.isAgg132
  z53 := Try.sizeOf132
  v53 := Try.zeroValue132
  t55 := Try.underlying120
  a55 := Try.isAgg120
  z55 := Try.sizeOf120
  v55 := Try.zeroValue120
  t66 := Try.underlying138
  a66 := Try.isAgg138
  z66 := Try.sizeOf138
  v66 := Try.zeroValue138
  t70 := Try.underlying141
  a70 := Try.isAgg141
  z70 := Try.sizeOf141
  v70 := Try.zeroValue141
  t76 := Try.underlying145
  a76 := Try.isAgg145
  z76 := Try.sizeOf145
  v76 := Try.zeroValue145
  t77 := Try.underlying146
  a77 := Try.isAgg146
  z77 := Try.sizeOf146
  v77 := Try.zeroValue146 }

end Go.Proofs.Ytdbjcojlcddhdaa

set_option linter.unusedSimpArgs false
set_option linter.unusedVariables false
namespace Go.Proofs.Ytdbjcojlcddhdaa
open Go.RowKit Go.Sort

/-- Draws and new blocks alone. -/
def Gr (w w' : World) : Prop := ∃ q os, w' = Sort.grow (w.drewN q) os
theorem Gr.refl (w : World) : Gr w w := ⟨0, #[], (grow_empty w).symm⟩
theorem Gr.alloc_ {w w' : World} (h : Gr w w') (o : Obj) : Gr w (w'.alloc o) := by
  obtain ⟨q, os, rfl⟩ := h
  exact ⟨q, os ++ #[o], by rw [alloc_eq_grow, grow_grow]⟩
theorem Gr.drew_ {w w' : World} (h : Gr w w') : Gr w w'.drew := by
  obtain ⟨q, os, rfl⟩ := h
  exact ⟨q + 1, os, rfl⟩
theorem Gr.drewN_ {w w' : World} (h : Gr w w') (n : Nat) : Gr w (w'.drewN n) := by
  obtain ⟨q, os, rfl⟩ := h
  exact ⟨q + n, os, by simp [Sort.grow, World.drewN, Nat.add_assoc]⟩
theorem Gr.trans_ {a b c : World} (h : Gr a b) (k : Gr b c) : Gr a c := by
  obtain ⟨q', os', rfl⟩ := k
  obtain ⟨q, os, h⟩ := h.drewN_ q'
  exact ⟨q, os ++ os', by rw [h, grow_grow]⟩
theorem Gr.bl {w w' : World} (h : Gr w w') : Bl w w' := by
  obtain ⟨q, os, rfl⟩ := h
  exact ⟨rfl, rfl, rfl, by rw [size_grow]; exact Nat.le_add_right _ _, fun i hi => heap_grow_old _ os hi⟩

theorem two_boxes_g {w wx : World} {a b x c d y : Int} (h : Gr ((w.alloc (.cells #[.int .i64 a, .int .i64 b, .int .i64 x] 51)).alloc (.cells #[.int .i64 c, .int .i64 d, .int .i64 y] 51)) wx) :
    Gr ((w.alloc (.cells #[.int .i64 a, .int .i64 b, .int .i64 x] 51)).alloc (.cells #[.int .i64 c, .int .i64 d, .int .i64 y] 51)) wx ∧ wx.cell? ⟨w.heap.size, 0, none⟩ = some (.int .i64 a) ∧ wx.cell? ⟨w.heap.size, 1, none⟩ = some (.int .i64 b) ∧ wx.cell? ⟨w.heap.size + 1, 0, none⟩ = some (.int .i64 c) ∧ wx.cell? ⟨w.heap.size + 1, 1, none⟩ = some (.int .i64 d) :=
  ⟨h, (two_boxes h.bl).2⟩

set_option maxHeartbeats 1000000 in
theorem ends_gr (a b x c d y : Int) (w : World) :
    Calls Try.prog 67 #[.agg #[.int .i64 a, .int .i64 b, .int .i64 x], .agg #[.int .i64 c, .int .i64 d, .int .i64 y]] w fun e w' => e = .returned (.int .i64 (endsI a b c d)) ∧ Gr w w' := by
  go_enter Try.func67, Try.ntmps67
  go_wp2
  go_region_held3 (fun wx => Gr ((w.alloc (.cells #[.int .i64 a, .int .i64 b, .int .i64 x] 51)).alloc (.cells #[.int .i64 c, .int .i64 d, .int .i64 y] 51)) wx ∧ wx.cell? ⟨w.heap.size, 0, none⟩ = some (.int .i64 a) ∧ wx.cell? ⟨w.heap.size, 1, none⟩ = some (.int .i64 b) ∧ wx.cell? ⟨w.heap.size + 1, 0, none⟩ = some (.int .i64 c) ∧ wx.cell? ⟨w.heap.size + 1, 1, none⟩ = some (.int .i64 d)) (exact two_boxes_g (by repeat' (first | exact Gr.refl _ | with_reducible assumption | with_reducible refine Gr.drew_ ?_ | with_reducible refine Gr.drewN_ ?_ _ | with_reducible refine Gr.alloc_ ?_ _ | with_reducible refine Gr.trans_ ?_ (by assumption) | with_reducible refine Gr.trans_ ?_ (And.left (by assumption))))) (first | (go_at_call 95; refine (cmp_any _ _ _).mono ?_; rintro e w' ⟨rfl, rfl⟩) | (go_at_call 94; refine (or_any (cmpI a c) (cmpI b d) _ _ _ ?_ ?_).mono ?_; (· go_simp); (· go_simp); rintro e w' ⟨rfl, rfl⟩))
  go_wp2
  go_ret
  exact ⟨ret_int rfl, (by repeat' (first | exact Gr.refl _ | with_reducible assumption | with_reducible refine Gr.drew_ ?_ | with_reducible refine Gr.drewN_ ?_ _ | with_reducible refine Gr.alloc_ ?_ _ | with_reducible refine Gr.trans_ ?_ (by assumption) | with_reducible refine Gr.trans_ ?_ (And.left (by assumption))))⟩

/-- An arc's cells. -/
def enc3 (a : Arc3) : List Value := [.int .i64 a.1, .int .i64 a.2.1, .int .i64 a.2.2]
/-- The order of two arcs by their ends, as a number. -/
def endsC (x y : Arc3) : Int := endsI x.1 x.2.1 y.1 y.2.1
theorem ltOf_ends (x y : Arc3) : ltOf endsC x y = aheadB x.1 x.2.1 y.1 y.2.1 := ends_neg _ _ _ _
theorem swo_ends : SWO (ltOf endsC) where
  irrefl x := by rw [ltOf_ends]; exact ahead_irrefl _ _
  trans x y z h1 h2 := by rw [ltOf_ends] at *; exact ahead_trans h1 h2
  ntrans x y z h1 h2 := by
    rw [ltOf_ends] at *
    simp only [aheadB, decide_eq_false_iff_not] at *
    omega
theorem cmp_lays (blk off size : Nat) (w : World) : CmpLays Try.prog 67 #[] enc3 3 endsC blk off size w := fun _ _ _ _ x y => ends_gr _ _ _ _ _ _ _

theorem sorted_turned {L : List Arc3} {d d' : Array Arc3} (hs : L.Pairwise AheadP) (hd : d.toList = L.map turnA) (hp : PermIn 0 d.size d d') (hso : SortedIn (ltOf endsC) 0 d.size d') : d'.toList = revL L := by
  obtain ⟨hsz, -, hperm⟩ := hp
  have e1 : d'.extract 0 d.size = d' := by rw [← hsz]; exact Array.extract_size
  rw [e1, Array.extract_size, hd] at hperm
  obtain ⟨r1, r2⟩ := revL_sorted hs
  have hne : (L.map turnA).Pairwise (fun a b => ¬ (a.1 = b.1 ∧ a.2.1 = b.2.1)) := by
    rw [List.pairwise_map]
    exact hs.imp fun {a b} h => fun hc => ahead_ne h ⟨hc.2, hc.1⟩
  have hne' := hperm.symm.pairwise hne (fun {x y} h => fun hc => h ⟨hc.1.symm, hc.2.symm⟩)
  refine sorted_uniq ?_ r1 (hperm.trans r2.symm)
  rw [List.pairwise_iff_getElem] at hne' ⊢
  intro i j hi hj hij
  have hi' : i < d'.size := by simpa using hi
  have hj' : j < d'.size := by simpa using hj
  have h1 := hso i j (Nat.zero_le _) hij (by omega)
  rw [getElem!_pos d' j hj', getElem!_pos d' i hi', ltOf_ends] at h1
  have h2 := hne' i j hi hj hij
  exact ahead_total (by simpa using h1) (fun hc => h2 ⟨hc.1.symm, hc.2.symm⟩)

theorem flat_arcs (T : List Arc3) : flatK enc3 3 T.toArray = (cs3 T).toArray := by
  refine ext_get! (by simp [cs3_length]) fun t ht => ?_
  have ht' : t < T.toArray.size * 3 := by simpa using ht
  have htl : t < T.length * 3 := by simpa using ht'
  rw [get_flatK _ _ _ _ ht']
  have hk : t / 3 < T.length := by omega
  obtain ⟨a, b, c⟩ := cs3_at T (t / 3) hk
  have e : t = t / 3 * 3 + t % 3 := by omega
  have h3 : t % 3 = 0 ∨ t % 3 = 1 ∨ t % 3 = 2 := by omega
  have hg : T.toArray[t / 3]! = T[t / 3] := by rw [getElem!_pos T.toArray (t / 3) (by simpa using hk)]; simp
  have key : ∀ r, t % 3 = r → (cs3 T).toArray[t]! = ((cs3 T)[t / 3 * 3 + r]?).getD default := fun r hr => by
    rw [← hr, ← e]
    simp
  rw [hg]
  rcases h3 with h3 | h3 | h3
  · rw [key 0 h3, Nat.add_zero, a, h3]; rfl
  · rw [key 1 h3, b, h3]; rfl
  · rw [key 2 h3, c, h3]; rfl

theorem holds_arcs {w : World} {B g c : Nat} {T : List Arc3} (h : OwnA w B (.slice (some ⟨g, 0, none⟩) T.length c) T) : HoldsK enc3 3 w g 0 T.toArray := by
  unfold HoldsK
  rw [flat_arcs]
  intro j hj
  have hj' : j < (cs3 T).length := by simpa using hj
  have h' : w.ownsRow B 51 3 (.slice (some ⟨g, 0, none⟩) T.length c) T.length (cs3 T) := h
  refine ⟨?_, by rw [Nat.zero_add]; exact World.ownsRow.frozenAt h' j⟩
  rw [Nat.zero_add, World.ownsRow.cellAt h' j (by rw [cs3_length] at hj'; exact hj'), getElem!_pos _ j hj]
  simp [hj']

theorem sorted_own {w : World} {B g c : Nat} {T T' : List Arc3} (h : OwnA w B (.slice (some ⟨g, 0, none⟩) T.length c) T) (hl : T'.length = T.length) (m : Nat) (os : Array Obj) :
    OwnA (sortWorldK enc3 3 w g 0 m T'.toArray os) B (.slice (some ⟨g, 0, none⟩) T.length c) T' ∧ w.grownBy (sortWorldK enc3 3 w g 0 m T'.toArray os) (some g) := by
  have h' : w.ownsRow B 51 3 (.slice (some ⟨g, 0, none⟩) T.length c) T.length (cs3 T) := h
  have hother : w.grownBy (sortWorldK enc3 3 w g 0 m T'.toArray os) (some g) := by
    refine ⟨rfl, rfl, rfl, ?_, fun i hi hne => ?_⟩
    · unfold sortWorldK
      rw [size_grow, size_putRowK]
      exact Nat.le_add_right _ _
    · have hne' : g ≠ i := fun e => hne (by rw [e])
      have hsz : i < (putRowK enc3 3 (Sort.ahead w m) g 0 T'.toArray).heap.size := by rw [size_putRowK]; exact hi
      unfold sortWorldK
      rw [heap_grow_old _ _ hsz]
      simp [putRowK, putRow, mapBlock, Sort.ahead, Array.getElem?_modify, hne']
  refine ⟨⟨by rw [cs3_length], ?_⟩, hother⟩
  rcases h'.2 with ⟨e, h0⟩ | ⟨g', cap, cur, e, hB, hg, hnc, hcm, hcs, htake⟩
  · injection e with e1 e2 e3
    cases e1
  · injection e with e1 e2 e3
    injection e1 with e1
    injection e1 with e1
    subst e1
    have hlt : g < w.heap.size := (Array.getElem?_eq_some_iff.1 hg).1
    have hsz : g < (putRowK enc3 3 (Sort.ahead w m) g 0 T'.toArray).heap.size := by rw [size_putRowK]; exact hlt
    refine .inr ⟨g, cap, putCells id 0 (flatK enc3 3 T'.toArray) cur, by rw [hl, e3], hB, ?_, by rw [hl]; exact hnc, hcm, by simp [putCells, hcs], ?_⟩
    · unfold sortWorldK
      rw [heap_grow_old _ _ hsz]
      simp [putRowK, putRow, mapBlock, Sort.ahead, Array.getElem?_modify, hg, onCells]
    · rw [flat_arcs]
      refine List.ext_getElem (by simp [putCells, hcs, cs3_length]; omega) fun i h1 h2 => ?_
      have hi : i < (cs3 T').length := h2
      simp [putCells, hi]

set_option maxHeartbeats 1000000 in
/-- The sort of arcs that are turned. -/
theorem sort_arcs (L T : List Arc3) (hs : L.Pairwise AheadP) (hT : T = L.map turnA) (B : Nat) (v : Value) (w : World) (hm : T.length ≤ 1048576) (h : OwnA w B v T) :
    Calls Try.prog 69 #[v, .func (.func 67) #[] #[]] w fun e w' => e = .returned (.tuple #[]) ∧ OwnA w' B v (revL L) ∧ w.grownBy w' v.ownBlock := by
  have h' : w.ownsRow B 51 3 v T.length (cs3 T) := h
  have hrl : (revL L).length = T.length := by rw [revL_len hs, hT, List.length_map]
  rcases h'.2 with ⟨rfl, h0⟩ | ⟨g, cap, cur, rfl, hB, hg, hnc, hcm, hcs, htake⟩
  · have hcon := AnyF.slices_SortFunc_none { sortArcs with } none 0 (.func (.func 67) #[] #[]) w
    change Calls Try.prog 69 _ _ _ at hcon
    refine hcon.mono ?_
    rintro e w' ⟨rfl, rfl⟩
    have e0 : revL L = [] := List.eq_nil_of_length_eq_zero (by omega)
    exact ⟨rfl, by rw [e0]; exact OwnA.nil_ _ _, World.grownBy.refl _ _⟩
  · have eg : ∀ args w, (callFunc 67 args).run Try.prog w = .ok (.enter 67 args) w := enters_of Try.func67 (by kernel_rfl) rfl
    have hcon := AnyQ.slices_SortFunc sortArcs 3 Try.isAgg51 Try.sizeOf51 enc3 (fun _ => rfl) (fun x v hv => by simp [enc3] at hv; rcases hv with rfl | rfl | rfl <;> rfl) endsC swo_ends 67 #[] g 0 cap T.toArray w eg (cmp_lays g 0 _ w) (holds_arcs h) (Array.getElem?_eq_some_iff.1 hg).1 (by simp; omega)
    change Calls Try.prog 69 _ _ _ at hcon
    refine hcon.mono ?_
    rintro e w' ⟨rfl, d', n, os, hp, hso, rfl⟩
    have e' : d' = (revL L).toArray := by
      have := sorted_turned hs (d := T.toArray) (by simpa using hT) hp hso
      rw [← this]
    rw [e']
    obtain ⟨o1, o2⟩ := sorted_own h hrl n os
    exact ⟨rfl, o1, o2⟩

end Go.Proofs.Ytdbjcojlcddhdaa

set_option linter.unusedSimpArgs false
set_option linter.unusedVariables false
namespace Go.Proofs.Ytdbjcojlcddhdaa
open Go.RowKit

set_option maxRecDepth 100000 in
set_option maxHeartbeats 4000000 in
theorem implReversed_any (N : Int) (A : Option Addr) (n c : Nat) (L : List Arc3) (hn : n = L.length) (w : World) (hm : n ≤ 1048576) (H1 : ArcsAt w w.heap.size A L) :
    Calls Try.prog 25 #[.agg #[.int .i64 N, .slice A n c]] w (GraphMade1 (revN N L) (revG N L) w) := by
  obtain ⟨i0, hi, hz0, hz1, hz2⟩ := info_parts infoArc
  have I0 := Lib.hid hi
  have I1 := Lib.hid hz0
  have I2 := Lib.hid hz1
  have I3 := Lib.hid hz2
  have K1 := Lib.hid H1
  have HN := Lib.hid hn
  clear H1 hn hi hz0 hz1 hz2
  cases ho : okB N L with
  | false =>
    have HO := Lib.hid ho
    clear ho
    go_enter Try.func25, Try.ntmps25
    go_wp2_with fail
    refine (implOk_any N A n c L HN.out _ (by omega) (K1.out.bl (by repeat' (first | exact Bl.refl _ | with_reducible assumption | with_reducible refine Bl.drew_ ?_ | with_reducible refine Bl.drewN_ ?_ _ | with_reducible refine Bl.alloc_ ?_ _ | with_reducible refine Bl.trans_ ?_ (by assumption) | with_reducible refine Bl.trans_ ?_ (And.left (by assumption)))))).mono ?_
    rintro e w1 ⟨rfl, hb1⟩
    rw [HO.out]
    obtain ⟨h00, h01, h10, h11, f10, f11, hsz⟩ := box22 hb1
    go_wp2
    refine bodyPost_ret (v := .agg #[.int .i64 0, .slice none 0 0]) (by simp [results, Try.results25, go_sem, h10, h11, f10, f11]) rfl ?_
    refine ⟨.slice none 0 0, by unfold revN; rw [HO.out]; rfl, by unfold revG; rw [HO.out, if_neg (by simp)]; exact OwnA.nil_ _ _, ?_⟩
    exact Bl.set_ (Bl.set_ ((Bl.alloc_ (Bl.alloc_ (Bl.refl w) _) _).trans_ hb1) (Nat.le_succ _) _) (Nat.le_succ _) _
  | true =>
    have HO := Lib.hid ho
    have HP := Lib.hid (okB_elim ho).2.2.2.2
    clear ho
    go_enter Try.func25, Try.ntmps25
    go_wp2_with fail
    refine (implOk_any N A n c L HN.out _ (by omega) (K1.out.bl (by repeat' (first | exact Bl.refl _ | with_reducible assumption | with_reducible refine Bl.drew_ ?_ | with_reducible refine Bl.drewN_ ?_ _ | with_reducible refine Bl.alloc_ ?_ _ | with_reducible refine Bl.trans_ ?_ (by assumption) | with_reducible refine Bl.trans_ ?_ (And.left (by assumption)))))).mono ?_
    rintro e w1 ⟨rfl, hb1⟩
    rw [HO.out]
    obtain ⟨h00, h01, h10, h11, f10, f11, hsz⟩ := box22 hb1
    have T0 := Lib.hid (show TS w (.cells #[.int .i64 N, .slice A n c] 26) (w.heap.size + 1) w1.heap.size N (.slice none 0 0) [] (w1.alloc (.cells #[.int .i64 N, .slice none 0 0] 26)) from by
      refine ⟨Two.new _ _ _, ?_, OwnA.nil_ _ _, ?_, by omega, hsz⟩
      · have := Two.new (w.alloc (.cells #[.int .i64 N, .slice A n c] 26)) (.int .i64 0) (.slice none 0 0)
        have := (this.bl hb1).bl (Bl.alloc_ (Bl.refl _) (.cells #[.int .i64 N, .slice none 0 0] 26))
        simpa using this
      · exact ((Bl.alloc_ (Bl.refl _) _).trans_ hb1).alloc_ _)
    clear h10 h11 f10 f11
    have hs1 : w.heap.size + 1 < w1.heap.size := hsz
    clear hsz
    obtain ⟨y0, y1⟩ := box2 T0.out.bl
    go_wp2_with fail
    clear y0 y1
    go_loopw [16] (fun i wr => ∃ (k : Nat) (q : Value), k ≤ n ∧ i = .int .i64 k ∧ TS w (.cells #[.int .i64 N, .slice A n c] 26) (w.heap.size + 1) w1.heap.size N q (turnK L k) wr) (fun i _ => n - (intOf i).toNat)
    case atStart => exact ⟨0, _, by omega, rfl, T0.out⟩
    case round =>
      obtain ⟨k, q, hk, rfl, hT⟩ := hrel
      obtain ⟨c0, c1, f0, f1⟩ := hT.box.facts
      obtain ⟨AQ, cq, rfl, hAQ, -⟩ := hT.own.shape
      have T := Lib.hid hT
      have hbw : Bl w wr := (Bl.alloc_ (Bl.refl w) _).trans_ hT.bl
      have hlt' := World.rowIs.lt hT.box
      clear hT hAQ T0
      by_cases hlt : k < n
      · have hkl : k < L.length := by have := HN.out; omega
        obtain ⟨g1, o1, rfl, hg1, hc1⟩ := K1.out (by omega)
        obtain ⟨p1, p2, p3⟩ := hc1 k hkl
        clear hc1
        rw [← (bcell hbw).1 _ _ hg1] at p1 p2 p3
        have TK := Lib.hid (turnK_succ hkl)
        have hlen := turnK_len L k
        generalize hx : L[k].1 = x at p1
        generalize hy : L[k].2.1 = y at p2
        generalize hz : L[k].2.2 = z at p3
        have HE := Lib.hid (show turnA L[k] = (y, x, z) from by unfold turnA; rw [hx, hy, hz])
        clear hx hy hz hbw
        obtain ⟨l, hl⟩ : ∃ l, l = (turnK L k).length := ⟨_, rfl⟩
        rw [← hl] at hlen c1 T
        have HL := Lib.hid hl
        clear hl
        have u1 : (0 : Int) ≤ (k : Int) := by omega
        have u2 : (k : Int) < (n : Int) := by omega
        have T2 := Lib.hid (T.out.bl_ (show Bl wr ((wr.alloc (.cells #[.int .i64 x, .int .i64 y, .int .i64 z] 51)).alloc (.cells #[.int .i64 y, .int .i64 x, .int .i64 z] 51)) from (by repeat' (first | exact Bl.refl _ | with_reducible assumption | with_reducible refine Bl.drew_ ?_ | with_reducible refine Bl.drewN_ ?_ _ | with_reducible refine Bl.alloc_ ?_ _ | with_reducible refine Bl.trans_ ?_ (by assumption) | with_reducible refine Bl.trans_ ?_ (And.left (by assumption))))))
        go_wp2_with (at_builtin; refine wpList_append_own _ rfl (.tmp 21) (.tmp 29) _ rfl (w1.heap.size + 1) 51 i0 _ 3 24 Try.underlying24 I0.out I1.out I2.out I3.out rfl (by decide) _ l (cs3 (turnK L k)) rfl ?c0 ⟨wr.heap.size + 1, 0, none⟩ 1 1 [.int .i64 y, .int .i64 x, .int .i64 z] rfl rfl ?c1 (one3 _ _ _) ?c3 ?c4 ?c5 ?_)
        case c0 => have := T2.out.own; rw [HL.out] at this ⊢; exact this
        case c1 => have := new3 (wr.alloc (.cells #[.int .i64 x, .int .i64 y, .int .i64 z] 51)) (.int .i64 y) (.int .i64 x) (.int .i64 z) 51; simpa using this
        case c3 => unfold maxLen; omega
        case c4 => omega
        case c5 => simp; omega
        intro v2 w2 hown2 hg2 _
        have O2 := Lib.hid (show OwnA w2 (w1.heap.size + 1) v2 (turnK L (k + 1)) from by
          rw [TK.out, HE.out]
          exact own_snoc (a := (y, x, z)) (by rw [← HL.out]; exact hown2))
        have G2 := Lib.hid hg2
        clear hown2 hg2
        have U := Lib.hid (T2.out.app G2.out O2.out)
        obtain ⟨b0, -, -⟩ := T2.out.grown_ G2.out O2.out
        obtain ⟨A2, c2, rfl, -, -⟩ := O2.out.shape
        obtain ⟨d0, d1, k0, k1⟩ := b0.facts
        clear b0 c0 c1 f0 f1
        go_wp2
        go_roundw
        case rel => exact ⟨k + 1, _, by omega, by go_num, U.out⟩
        case measure => simp [intOf]; omega
      · obtain rfl : k = n := by omega
        have TA := Lib.hid (show turnK L k = L.map turnA from by rw [HN.out]; exact turnK_all L)
        have hlen := turnK_len L k
        go_wp2_with fail
        refine (sort_arcs L (turnK L k) HP.out TA.out (w1.heap.size + 1) _ _ (by omega) T.out.own).mono ?_
        rintro e w2 ⟨rfl, ho, hg⟩
        have U := Lib.hid (T.out.same hg ho)
        clear ho hg c0 c1 f0 f1
        obtain ⟨c0, c1, f0, f1⟩ := U.out.box.facts
        obtain ⟨r0, r1, fr0, fr1⟩ := U.out.res.facts
        go_wp2
        refine bodyPost_ret (v := .agg #[.int .i64 N, .slice AQ (turnK L k).length cq]) (by simp [results, Try.results25, go_sem, r0, r1, fr0, fr1]) rfl ?_
        have := U.out.fin (.int .i64 N) (.slice AQ (turnK L k).length cq)
        exact ⟨_, by unfold revN; rw [HO.out]; rfl, by unfold revG; rw [HO.out, if_pos rfl]; exact this.1, this.2⟩

end Go.Proofs.Ytdbjcojlcddhdaa

set_option linter.unusedSimpArgs false
set_option linter.unusedVariables false
namespace Go.Proofs.Ytdbjcojlcddhdaa
open Go.RowKit Go.Shelf
attribute [local go_sem] Oper.semAt_some

/-- Nodes below k with a distance of both kinds, and these. -/
def bothB (D E : List Int) (v : Int) : Bool := decide (0 ≤ dAt D v ∧ 0 ≤ dAt E v)
def passK (D E : List Int) (k : Nat) : List Arc3 := (((List.range k).map Int.ofNat).filter (bothB D E)).map fun v => (v, dAt D v, dAt E v)
theorem passK_zero (D E : List Int) : passK D E 0 = [] := rfl
theorem passK_yes {D E : List Int} {k : Nat} (h : bothB D E (k : Int) = true) : passK D E (k + 1) = passK D E k ++ [((k : Int), dAt D (k : Int), dAt E (k : Int))] := by
  unfold passK
  rw [List.range_succ, List.map_append, List.filter_append, List.map_append]
  simp [h]
theorem passK_no {D E : List Int} {k : Nat} (h : bothB D E (k : Int) = false) : passK D E (k + 1) = passK D E k := by
  unfold passK
  rw [List.range_succ, List.map_append, List.filter_append, List.map_append]
  simp [h]
theorem passK_more (D E : List Int) (k : Nat) : ∀ m : Nat, ∃ Z, passK D E (k + m) = passK D E k ++ Z
  | 0 => ⟨[], by simp⟩
  | m + 1 => by
    obtain ⟨Z, hZ⟩ := passK_more D E k m
    rw [show k + (m + 1) = (k + m) + 1 from by omega]
    cases h : bothB D E ((k + m : Nat) : Int) with
    | true => exact ⟨Z ++ [(((k + m : Nat) : Int), dAt D ((k + m : Nat) : Int), dAt E ((k + m : Nat) : Int))], by rw [passK_yes h, hZ, List.append_assoc]⟩
    | false => exact ⟨Z, by rw [passK_no h, hZ]⟩
theorem passK_ids (D E : List Int) : ∀ (k : Nat) (x : Arc3), x ∈ passK D E k → (0 ≤ x.1 ∧ x.1 < k) ∧ x.2.1 = dAt D x.1 ∧ x.2.2 = dAt E x.1 ∧ 0 ≤ x.2.1 ∧ 0 ≤ x.2.2 := by
  intro k x hx
  unfold passK at hx
  obtain ⟨v, hv, rfl⟩ := List.mem_map.1 hx
  obtain ⟨hv, hb⟩ := List.mem_filter.1 hv
  obtain ⟨n, hn, rfl⟩ := List.mem_map.1 hv
  rw [List.mem_range] at hn
  simp only [bothB, decide_eq_true_eq] at hb
  refine ⟨⟨?_, ?_⟩, rfl, rfl, hb.1, hb.2⟩
  · show (0 : Int) ≤ (n : Int); omega
  · show (n : Int) < (k : Int); omega
def AllPass (D E : List Int) (n : Nat) (xs : List Arc3) : Prop := xs = passK D E n
def NextPass (D E : List Int) (n : Nat) (pre : List Arc3) (x : Arc3) : Prop := ∃ Z, passK D E n = pre ++ x :: Z
def PartPass (D E : List Int) (n : Nat) (pre : List Arc3) : Prop := ∃ Z, passK D E n = pre ++ Z
def encP (x : Arc3) : Array Value := #[.agg #[.int .i64 x.1, .int .i64 x.2.1, .int .i64 x.2.2]]

/-- What the iterator reads. -/
structure PIn (w : World) (nb fb tb : Nat) (n : Nat) (D E : List Int) : Prop where
  size : w.cell? ⟨nb, 0, none⟩ = some (.int .i64 (n : Int))
  from_ : NumsAt w fb D
  to_ : NumsAt w tb E
def passBlocks (nb fb tb i : Nat) : Prop := i = nb ∨ i = fb ∨ i = tb
theorem PIn.turn {w w' : World} {nb fb tb n : Nat} {D E : List Int} (h : PIn w nb fb tb n D E) {S : Nat → Prop} (t : Turn S w w') (hS : ∀ i, S i → ¬ passBlocks nb fb tb i) : PIn w' nb fb tb n D E :=
  ⟨(t.cells (World.block_lt_of_cell? _ _ h.size) (fun e => hS _ e (.inl rfl)) 0).1.trans h.size, h.from_.turn t (fun e => hS _ e (.inr (.inl rfl))), h.to_.turn t (fun e => hS _ e (.inr (.inr rfl)))⟩
theorem PIn.lt {w : World} {nb fb tb n : Nat} {D E : List Int} (h : PIn w nb fb tb n D E) {i : Nat} (hi : passBlocks nb fb tb i) : i < w.heap.size := by
  rcases hi with rfl | rfl | rfl
  · exact World.block_lt_of_cell? _ _ h.size
  · exact h.from_.lt
  · exact h.to_.lt

set_option maxRecDepth 100000 in
set_option maxHeartbeats 4000000 in
theorem pass_walk (n : Nat) (nb fb tb : Nat) (D E : List Int) (hn : n ≤ 24)
    (l : Nat) (J Jx : List Arc3 → (Nat → Prop) → World → Prop) (K0 : Nat → Prop) (W : World) (hI : PIn W nb fb tb n D E)
    (hJ : ∀ pre K A B, J pre K A → Turn (fun i => ¬ K i) A B → J pre K B) (hJx : ∀ pre K A B, Jx pre K A → Turn (fun i => ¬ K i) A B → Jx pre K B) (hlt : ∀ pre K A, J pre K A → ∀ i, K i → i < A.heap.size)
    (hK0 : ∀ i, K0 i → ¬ passBlocks nb fb tb i)
    (hY : ∀ pre x K W1, J pre K W1 → NextPass D E n pre x → YieldAt Fence.wide 0 Try.prog l (encP x) W1 fun e W' => ∃ K', Step K K' W1 W' ∧
      ((e = .returned (.bool true) ∧ J (pre ++ [x]) K' W') ∨ (e = .returned (.bool false) ∧ Jx (pre ++ [x]) K' W')))
    (hJ0 : J [] K0 W) :
    CallsIn Fence.wide 0 Try.prog 123 #[.func (.yield l) #[] #[], .pointer (some ⟨nb, 0, none⟩), .pointer (some ⟨fb, 0, none⟩), .pointer (some ⟨tb, 0, none⟩)] W fun e W' => (∃ v, e = .returned v) ∧ ∃ K', Step K0 K' W W' ∧
      ((∃ xs, AllPass D E n xs ∧ J xs K' W') ∨ (∃ pre, PartPass D E n pre ∧ Jx pre K' W')) := by
  have HI := Lib.hid hI
  have HJ := Lib.hid hJ
  have HK := Lib.hid hK0
  have HY := Lib.hid hY
  have HJ0 := Lib.hid hJ0
  have q0 := hI.size
  clear hJ hJx hlt hK0 hY hJ0 hI
  refine callsIn_of_wp Try.func123 rfl trivial ?_ rfl
  simp only [Try.ntmps123, List.size_toArray, List.length_cons, List.length_nil, Nat.reduceAdd, Nat.reduceSub, Array.replicate_succ, Array.replicate_zero, List.push_toArray, List.append_toArray, List.nil_append, List.cons_append]
  gi_wp2_with fail
  clear q0
  gi_loopw [7] (fun i wr => ∃ (k : Nat) (K : Nat → Prop), k ≤ n ∧ i = .int .i64 k ∧ J (passK D E k) K wr ∧ Step K0 K W wr) (fun i _ => n - (intOf i).toNat)
  case atStart => exact ⟨0, K0, by omega, rfl, by rw [passK_zero]; exact HJ0.out, Step.refl _ _⟩
  case round =>
    obtain ⟨k, K, hk, rfl, hj, hst⟩ := hrel
    have J1 := Lib.hid hj
    have ST := Lib.hid hst
    clear hj hst
    by_cases hlt : k < n
    · have in1 := HI.out.turn ST.out.1 (fun i hi => HK.out i hi)
      have hkD : k < D.length := by rw [in1.from_.len]; omega
      have hkE : k < E.length := by rw [in1.to_.len]; omega
      have q1 := in1.from_.cell k hkD
      have q2 := in1.to_.cell k hkE
      have hfl := in1.from_.lt
      have htl := in1.to_.lt
      have BB := Lib.hid (show bothB D E (k : Int) = decide (0 ≤ D[k] ∧ 0 ≤ E[k]) from by unfold bothB; rw [dAt_at hkD, dAt_at hkE])
      have YES := Lib.hid (fun (h : bothB D E (k : Int) = true) => (show passK D E (k + 1) = passK D E k ++ [((k : Int), D[k], E[k])] from by rw [passK_yes h, dAt_at hkD, dAt_at hkE]))
      have NO := Lib.hid (fun h => passK_no (D := D) (E := E) (k := k) h)
      generalize D[k] = d at *
      generalize E[k] = e at *
      have i0 : (0 : Int) ≤ (k : Int) := by omega
      have i1 : (k : Int) < (n : Int) := by omega
      have i2 : (k : Int) < 24 := by omega
      clear in1
      by_cases h1 : 0 ≤ d
      · have b1 : decide (0 ≤ d) = true := by simpa using h1
        by_cases h2 : 0 ≤ e
        · have b2 : decide (0 ≤ e) = true := by simpa using h2
          have HY1 := Lib.hid (YES.out (by rw [BB.out, decide_eq_true_eq]; exact ⟨h1, h2⟩))
          have hnext : NextPass D E n (passK D E k) ((k : Int), d, e) := by
            obtain ⟨Z, hZ⟩ := passK_more D E (k + 1) (n - (k + 1))
            rw [show k + 1 + (n - (k + 1)) = n from by omega, HY1.out] at hZ
            exact ⟨Z, by rw [hZ]; simp⟩
          obtain ⟨fn, tmps, assign, body, hy, hR⟩ := HY.out (passK D E k) ((k : Int), d, e) K _ (HJ.out _ _ _ _ J1.out (Turn.of_bl (Bl.drew_ (Bl.refl wr)))) hnext
          dsimp only [encP] at hy
          have HP := Lib.hid (show PartPass D E n (passK D E k ++ [((k : Int), d, e)]) from by obtain ⟨Z, hZ⟩ := hnext; exact ⟨Z, by rw [hZ]; simp⟩)
          clear YES NO BB hnext
          gi_wp2_with fail
          refine wpIn_region_any (by kernel_rfl) ?_
          try (change wpAnyIn _ _ _ _ _ _ _ _ _ (World.drew _))
          refine wpAnyIn_take (i := 0) (v := ?_) rfl rfl (by kernel_rfl) (by kernel_rfl) (by kernel_rfl) (fun _ _ _ h => h) ⟨Or.inl ⟨by kernel_rfl, ?_⟩, fun _ => rfl⟩ ?_
          rotate_left
          · (intro wx; go_simp; try (with_reducible rfl))
          try simp only [Act.put, List.getElem_toArray, List.getElem_cons_succ, List.getElem_cons_zero, List.setIfInBounds_toArray, List.set_cons_zero, List.set_cons_succ]
          refine wpAnyIn_take (i := 1) (v := ?_) rfl rfl (by kernel_rfl) (by kernel_rfl) (by kernel_rfl) (fun _ _ _ h => h) ⟨Or.inl ⟨by kernel_rfl, ?_⟩, fun _ => rfl⟩ ?_
          rotate_left
          · (intro wx; go_simp; try (with_reducible rfl))
          try simp only [Act.put, List.getElem_toArray, List.getElem_cons_succ, List.getElem_cons_zero, List.setIfInBounds_toArray, List.set_cons_zero, List.set_cons_succ]
          refine wpAnyIn_ready (rs := [2]) (by kernel_rfl) (by simp) ?_
          refine AllReadyIn.cons rfl (fun K hK => ?_) (AllReadyIn.nil)
          go_simp
          refine hK _ _ ?_
          clear hK K
          try simp only [Act.put, List.getElem_toArray, List.getElem_cons_succ, List.getElem_cons_zero, List.setIfInBounds_toArray, List.set_cons_zero, List.set_cons_succ]
          refine wpAnyIn_take (i := 3) (v := ?_) rfl rfl (by kernel_rfl) (by kernel_rfl) (by kernel_rfl) (fun _ _ _ h => h) ⟨Or.inl ⟨by kernel_rfl, ?_⟩, fun _ => rfl⟩ ?_
          rotate_left
          · (intro wx; go_simp; try (with_reducible rfl))
          try simp only [Act.put, List.getElem_toArray, List.getElem_cons_succ, List.getElem_cons_zero, List.setIfInBounds_toArray, List.set_cons_zero, List.set_cons_succ]
          refine wpAnyIn_take (i := 4) (v := ?_) rfl rfl (by kernel_rfl) (by kernel_rfl) (by kernel_rfl) (fun _ _ _ h => h) ⟨Or.inl ⟨by kernel_rfl, ?_⟩, fun _ => rfl⟩ ?_
          rotate_left
          · (intro wx; go_simp; try (with_reducible rfl))
          try simp only [Act.put, List.getElem_toArray, List.getElem_cons_succ, List.getElem_cons_zero, List.setIfInBounds_toArray, List.set_cons_zero, List.set_cons_succ]
          refine wpAnyIn_take (i := 5) (v := ?_) rfl rfl (by kernel_rfl) (by kernel_rfl) (by kernel_rfl) (fun _ _ _ h => h) ⟨Or.inl ⟨by kernel_rfl, ?_⟩, fun _ => rfl⟩ ?_
          rotate_left
          · (intro wx; go_simp; try (with_reducible rfl))
          try simp only [Act.put, List.getElem_toArray, List.getElem_cons_succ, List.getElem_cons_zero, List.setIfInBounds_toArray, List.set_cons_zero, List.set_cons_succ]
          refine wpAnyIn_take (i := 6) (v := ?_) rfl rfl (by kernel_rfl) (by kernel_rfl) (by kernel_rfl) (fun _ _ _ h => h) ⟨Or.inl ⟨by kernel_rfl, ?_⟩, fun _ => rfl⟩ ?_
          rotate_left
          · (intro wx; go_simp; try (with_reducible rfl))
          try simp only [Act.put, List.getElem_toArray, List.getElem_cons_succ, List.getElem_cons_zero, List.setIfInBounds_toArray, List.set_cons_zero, List.set_cons_succ]
          refine wpAnyIn_ready (rs := [7]) (by kernel_rfl) (by simp) ?_
          refine AllReadyIn.cons rfl (fun K hK => ?_) (AllReadyIn.nil)
          go_simp
          refine hK _ _ ?_
          clear hK K
          try simp only [Act.put, List.getElem_toArray, List.getElem_cons_succ, List.getElem_cons_zero, List.setIfInBounds_toArray, List.set_cons_zero, List.set_cons_succ]
          refine wpAnyIn_take (i := 8) (v := ?_) rfl rfl (by kernel_rfl) (by kernel_rfl) (by kernel_rfl) (fun _ _ _ h => h) ⟨Or.inl ⟨by kernel_rfl, ?_⟩, fun _ => rfl⟩ ?_
          rotate_left
          · (intro wx; go_simp; try (with_reducible rfl))
          try simp only [Act.put, List.getElem_toArray, List.getElem_cons_succ, List.getElem_cons_zero, List.setIfInBounds_toArray, List.set_cons_zero, List.set_cons_succ]
          refine wpAnyIn_take (i := 9) (v := ?_) rfl rfl (by kernel_rfl) (by kernel_rfl) (by kernel_rfl) (fun _ _ _ h => h) ⟨Or.inl ⟨by kernel_rfl, ?_⟩, fun _ => rfl⟩ ?_
          rotate_left
          · (intro wx; go_simp; try (with_reducible rfl))
          try simp only [Act.put, List.getElem_toArray, List.getElem_cons_succ, List.getElem_cons_zero, List.setIfInBounds_toArray, List.set_cons_zero, List.set_cons_succ]
          refine wpAnyIn_take (i := 10) (v := ?_) rfl rfl (by kernel_rfl) (by kernel_rfl) (by kernel_rfl) (fun _ _ _ h => h) ⟨Or.inl ⟨by kernel_rfl, ?_⟩, fun _ => rfl⟩ ?_
          rotate_left
          · (intro wx; go_simp; try (with_reducible rfl))
          try simp only [Act.put, List.getElem_toArray, List.getElem_cons_succ, List.getElem_cons_zero, List.setIfInBounds_toArray, List.set_cons_zero, List.set_cons_succ]
          refine wpAnyIn_take (i := 11) (v := ?_) rfl rfl (by kernel_rfl) (by kernel_rfl) (by kernel_rfl) (fun _ _ _ h => h) ⟨Or.inl ⟨by kernel_rfl, ?_⟩, fun _ => rfl⟩ ?_
          rotate_left
          · (intro wx; go_simp; try (with_reducible rfl))
          try simp only [Act.put, List.getElem_toArray, List.getElem_cons_succ, List.getElem_cons_zero, List.setIfInBounds_toArray, List.set_cons_zero, List.set_cons_succ]
          refine wpAnyIn_take (i := 12) (v := ?_) rfl rfl (by kernel_rfl) (by kernel_rfl) (by kernel_rfl) (fun _ _ _ h => h) ⟨Or.inl ⟨by kernel_rfl, ?_⟩, fun _ => rfl⟩ ?_
          rotate_left
          · (intro wx; go_simp; try (with_reducible rfl))
          try simp only [Act.put, List.getElem_toArray, List.getElem_cons_succ, List.getElem_cons_zero, List.setIfInBounds_toArray, List.set_cons_zero, List.set_cons_succ]
          refine wpAnyIn_take (i := 13) (v := ?_) rfl rfl (by kernel_rfl) (by kernel_rfl) (by kernel_rfl) (fun _ _ _ h => h) ⟨Or.inl ⟨by kernel_rfl, ?_⟩, fun _ => rfl⟩ ?_
          rotate_left
          · (intro wx; go_simp; try (with_reducible rfl))
          try simp only [Act.put, List.getElem_toArray, List.getElem_cons_succ, List.getElem_cons_zero, List.setIfInBounds_toArray, List.set_cons_zero, List.set_cons_succ]
          refine wpAnyIn_take (i := 14) (v := ?_) rfl rfl (by kernel_rfl) (by kernel_rfl) (by kernel_rfl) (fun _ _ _ h => h) ⟨Or.inl ⟨by kernel_rfl, ?_⟩, fun _ => rfl⟩ ?_
          rotate_left
          · (intro wx; go_simp; try (with_reducible rfl))
          try simp only [Act.put, List.getElem_toArray, List.getElem_cons_succ, List.getElem_cons_zero, List.setIfInBounds_toArray, List.set_cons_zero, List.set_cons_succ]
          refine wpAnyIn_take (i := 16) (v := ?_) rfl rfl (by kernel_rfl) (by kernel_rfl) (by kernel_rfl) (fun _ _ _ h => h) ⟨Or.inl ⟨by kernel_rfl, ?_⟩, fun _ => rfl⟩ ?_
          rotate_left
          · (intro wx; go_simp; try (with_reducible rfl))
          try simp only [Act.put, List.getElem_toArray, List.getElem_cons_succ, List.getElem_cons_zero, List.setIfInBounds_toArray, List.set_cons_zero, List.set_cons_succ]
          refine wpAnyIn_take (i := 17) (v := ?_) rfl rfl (by kernel_rfl) (by kernel_rfl) (by kernel_rfl) (fun _ _ _ h => h) ⟨Or.inl ⟨by kernel_rfl, ?_⟩, fun _ => rfl⟩ ?_
          rotate_left
          · (intro wx; go_simp; try (with_reducible rfl))
          try simp only [Act.put, List.getElem_toArray, List.getElem_cons_succ, List.getElem_cons_zero, List.setIfInBounds_toArray, List.set_cons_zero, List.set_cons_succ]
          refine wpAnyIn_ready (rs := [15, 18]) (by kernel_rfl) (by simp) ?_
          refine AllReadyIn.cons rfl (fun K hK => ?_) (AllReadyIn.cons rfl (fun K hK => ?_) (AllReadyIn.nil))
          · go_simp
            refine hK _ _ ?_
            clear hK K
            try simp only [Act.put, List.getElem_toArray, List.getElem_cons_succ, List.getElem_cons_zero, List.setIfInBounds_toArray, List.set_cons_zero, List.set_cons_succ]
            refine wpAnyIn_ready (rs := [18]) (by kernel_rfl) (by simp) ?_
            refine AllReadyIn.cons rfl (fun K hK => ?_) (AllReadyIn.nil)
            go_simp
            refine hK _ _ ?_
            clear hK K
            try simp only [Act.put, List.getElem_toArray, List.getElem_cons_succ, List.getElem_cons_zero, List.setIfInBounds_toArray, List.set_cons_zero, List.set_cons_succ]
            refine wpAnyIn_take (i := 19) (v := ?_) rfl rfl (by kernel_rfl) (by kernel_rfl) (by kernel_rfl) (fun _ _ _ h => h) ⟨Or.inl ⟨by kernel_rfl, ?_⟩, fun _ => rfl⟩ ?_
            rotate_left
            · (intro wx; go_simp; try (with_reducible rfl))
            try simp only [Act.put, List.getElem_toArray, List.getElem_cons_succ, List.getElem_cons_zero, List.setIfInBounds_toArray, List.set_cons_zero, List.set_cons_succ]
            refine wpAnyIn_ready (rs := [20]) (by kernel_rfl) (by simp) ?_
            refine AllReadyIn.cons rfl (fun K hK => ?_) (AllReadyIn.nil)
            gi_wp2
            refine ⟨by first | rfl | (intro h; simp [Fence.wide] at h), hR.mono ?_⟩
            rintro e4 W4 ⟨K', hs4, (⟨rfl, hj4⟩ | ⟨rfl, hj4⟩)⟩
            · have S5 := Lib.hid (ST.out.trans (Step.trans ⟨Turn.of_bl (Bl.drew_ (Bl.refl wr)), fun i h => .inl h⟩ hs4))
              have J5 := Lib.hid hj4
              clear hs4 hj4 hR hy q1 q2
              gi_wp2_with fail
              refine wpAnyIn_take (i := 21) (v := ?_) rfl rfl (by kernel_rfl) (by kernel_rfl) (by kernel_rfl) (fun _ _ _ h => h) ⟨Or.inl ⟨by kernel_rfl, ?_⟩, fun _ => rfl⟩ ?_
              rotate_left
              · (intro wx; go_simp; try (with_reducible rfl))
              try simp only [Act.put, List.getElem_toArray, List.getElem_cons_succ, List.getElem_cons_zero, List.setIfInBounds_toArray, List.set_cons_zero, List.set_cons_succ]
              refine wpAnyIn_take (i := 22) (v := ?_) rfl rfl (by kernel_rfl) (by kernel_rfl) (by kernel_rfl) (fun _ _ _ h => h) ⟨Or.inl ⟨by kernel_rfl, ?_⟩, fun _ => rfl⟩ ?_
              rotate_left
              · (intro wx; go_simp; try (with_reducible rfl))
              try simp only [Act.put, List.getElem_toArray, List.getElem_cons_succ, List.getElem_cons_zero, List.setIfInBounds_toArray, List.set_cons_zero, List.set_cons_succ]
              refine wpAnyIn_done (by kernel_rfl) ?_ _
              gi_wp2_with fail
              go_roundw
              case rel => exact ⟨k + 1, K', by omega, by go_num, by rw [HY1.out]; exact J5.out, S5.out⟩
              case measure => simp [intOf]; omega
            · have S5 := Lib.hid (ST.out.trans (Step.trans ⟨Turn.of_bl (Bl.drew_ (Bl.refl wr)), fun i h => .inl h⟩ hs4))
              have J5 := Lib.hid hj4
              clear hs4 hj4 hR hy q1 q2
              gi_wp2_with fail
              refine wpAnyIn_take (i := 21) (v := ?_) rfl rfl (by kernel_rfl) (by kernel_rfl) (by kernel_rfl) (fun _ _ _ h => h) ⟨Or.inl ⟨by kernel_rfl, ?_⟩, fun _ => rfl⟩ ?_
              rotate_left
              · (intro wx; go_simp; try (with_reducible rfl))
              try simp only [Act.put, List.getElem_toArray, List.getElem_cons_succ, List.getElem_cons_zero, List.setIfInBounds_toArray, List.set_cons_zero, List.set_cons_succ]
              refine wpAnyIn_take (i := 22) (v := ?_) rfl rfl (by kernel_rfl) (by kernel_rfl) (by kernel_rfl) (fun _ _ _ h => h) ⟨Or.inl ⟨by kernel_rfl, ?_⟩, fun _ => rfl⟩ ?_
              rotate_left
              · (intro wx; go_simp; try (with_reducible rfl))
              try simp only [Act.put, List.getElem_toArray, List.getElem_cons_succ, List.getElem_cons_zero, List.setIfInBounds_toArray, List.set_cons_zero, List.set_cons_succ]
              refine wpAnyIn_done (by kernel_rfl) ?_ _
              gi_wp2
              refine bodyPost_ret (results_none rfl _ _ _) rfl ?_
              exact ⟨⟨_, rfl⟩, K', S5.out, .inr ⟨_, HP.out, J5.out⟩⟩
          · go_simp
            refine hK _ _ ?_
            clear hK K
            try simp only [Act.put, List.getElem_toArray, List.getElem_cons_succ, List.getElem_cons_zero, List.setIfInBounds_toArray, List.set_cons_zero, List.set_cons_succ]
            refine wpAnyIn_ready (rs := [15]) (by kernel_rfl) (by simp) ?_
            refine AllReadyIn.cons rfl (fun K hK => ?_) (AllReadyIn.nil)
            go_simp
            refine hK _ _ ?_
            clear hK K
            try simp only [Act.put, List.getElem_toArray, List.getElem_cons_succ, List.getElem_cons_zero, List.setIfInBounds_toArray, List.set_cons_zero, List.set_cons_succ]
            refine wpAnyIn_take (i := 19) (v := ?_) rfl rfl (by kernel_rfl) (by kernel_rfl) (by kernel_rfl) (fun _ _ _ h => h) ⟨Or.inl ⟨by kernel_rfl, ?_⟩, fun _ => rfl⟩ ?_
            rotate_left
            · (intro wx; go_simp; try (with_reducible rfl))
            try simp only [Act.put, List.getElem_toArray, List.getElem_cons_succ, List.getElem_cons_zero, List.setIfInBounds_toArray, List.set_cons_zero, List.set_cons_succ]
            refine wpAnyIn_ready (rs := [20]) (by kernel_rfl) (by simp) ?_
            refine AllReadyIn.cons rfl (fun K hK => ?_) (AllReadyIn.nil)
            gi_wp2
            refine ⟨by first | rfl | (intro h; simp [Fence.wide] at h), hR.mono ?_⟩
            rintro e4 W4 ⟨K', hs4, (⟨rfl, hj4⟩ | ⟨rfl, hj4⟩)⟩
            · have S5 := Lib.hid (ST.out.trans (Step.trans ⟨Turn.of_bl (Bl.drew_ (Bl.refl wr)), fun i h => .inl h⟩ hs4))
              have J5 := Lib.hid hj4
              clear hs4 hj4 hR hy q1 q2
              gi_wp2_with fail
              refine wpAnyIn_take (i := 21) (v := ?_) rfl rfl (by kernel_rfl) (by kernel_rfl) (by kernel_rfl) (fun _ _ _ h => h) ⟨Or.inl ⟨by kernel_rfl, ?_⟩, fun _ => rfl⟩ ?_
              rotate_left
              · (intro wx; go_simp; try (with_reducible rfl))
              try simp only [Act.put, List.getElem_toArray, List.getElem_cons_succ, List.getElem_cons_zero, List.setIfInBounds_toArray, List.set_cons_zero, List.set_cons_succ]
              refine wpAnyIn_take (i := 22) (v := ?_) rfl rfl (by kernel_rfl) (by kernel_rfl) (by kernel_rfl) (fun _ _ _ h => h) ⟨Or.inl ⟨by kernel_rfl, ?_⟩, fun _ => rfl⟩ ?_
              rotate_left
              · (intro wx; go_simp; try (with_reducible rfl))
              try simp only [Act.put, List.getElem_toArray, List.getElem_cons_succ, List.getElem_cons_zero, List.setIfInBounds_toArray, List.set_cons_zero, List.set_cons_succ]
              refine wpAnyIn_done (by kernel_rfl) ?_ _
              gi_wp2_with fail
              go_roundw
              case rel => exact ⟨k + 1, K', by omega, by go_num, by rw [HY1.out]; exact J5.out, S5.out⟩
              case measure => simp [intOf]; omega
            · have S5 := Lib.hid (ST.out.trans (Step.trans ⟨Turn.of_bl (Bl.drew_ (Bl.refl wr)), fun i h => .inl h⟩ hs4))
              have J5 := Lib.hid hj4
              clear hs4 hj4 hR hy q1 q2
              gi_wp2_with fail
              refine wpAnyIn_take (i := 21) (v := ?_) rfl rfl (by kernel_rfl) (by kernel_rfl) (by kernel_rfl) (fun _ _ _ h => h) ⟨Or.inl ⟨by kernel_rfl, ?_⟩, fun _ => rfl⟩ ?_
              rotate_left
              · (intro wx; go_simp; try (with_reducible rfl))
              try simp only [Act.put, List.getElem_toArray, List.getElem_cons_succ, List.getElem_cons_zero, List.setIfInBounds_toArray, List.set_cons_zero, List.set_cons_succ]
              refine wpAnyIn_take (i := 22) (v := ?_) rfl rfl (by kernel_rfl) (by kernel_rfl) (by kernel_rfl) (fun _ _ _ h => h) ⟨Or.inl ⟨by kernel_rfl, ?_⟩, fun _ => rfl⟩ ?_
              rotate_left
              · (intro wx; go_simp; try (with_reducible rfl))
              try simp only [Act.put, List.getElem_toArray, List.getElem_cons_succ, List.getElem_cons_zero, List.setIfInBounds_toArray, List.set_cons_zero, List.set_cons_succ]
              refine wpAnyIn_done (by kernel_rfl) ?_ _
              gi_wp2
              refine bodyPost_ret (results_none rfl _ _ _) rfl ?_
              exact ⟨⟨_, rfl⟩, K', S5.out, .inr ⟨_, HP.out, J5.out⟩⟩
        · have b2 : decide (0 ≤ e) = false := by simpa using h2
          have HN := Lib.hid (NO.out (by rw [BB.out, decide_eq_false_iff_not]; exact fun h => h2 h.2))
          clear YES NO BB
          gi_wp2_with fail
          refine wpIn_region_any (by kernel_rfl) ?_
          try (change wpAnyIn _ _ _ _ _ _ _ _ _ (World.drew _))
          refine wpAnyIn_take (i := 0) (v := ?_) rfl rfl (by kernel_rfl) (by kernel_rfl) (by kernel_rfl) (fun _ _ _ h => h) ⟨Or.inl ⟨by kernel_rfl, ?_⟩, fun _ => rfl⟩ ?_
          rotate_left
          · (intro wx; go_simp; try (with_reducible rfl))
          try simp only [Act.put, List.getElem_toArray, List.getElem_cons_succ, List.getElem_cons_zero, List.setIfInBounds_toArray, List.set_cons_zero, List.set_cons_succ]
          refine wpAnyIn_take (i := 1) (v := ?_) rfl rfl (by kernel_rfl) (by kernel_rfl) (by kernel_rfl) (fun _ _ _ h => h) ⟨Or.inl ⟨by kernel_rfl, ?_⟩, fun _ => rfl⟩ ?_
          rotate_left
          · (intro wx; go_simp; try (with_reducible rfl))
          try simp only [Act.put, List.getElem_toArray, List.getElem_cons_succ, List.getElem_cons_zero, List.setIfInBounds_toArray, List.set_cons_zero, List.set_cons_succ]
          refine wpAnyIn_ready (rs := [2]) (by kernel_rfl) (by simp) ?_
          refine AllReadyIn.cons rfl (fun K hK => ?_) (AllReadyIn.nil)
          go_simp
          refine hK _ _ ?_
          clear hK K
          try simp only [Act.put, List.getElem_toArray, List.getElem_cons_succ, List.getElem_cons_zero, List.setIfInBounds_toArray, List.set_cons_zero, List.set_cons_succ]
          refine wpAnyIn_take (i := 3) (v := ?_) rfl rfl (by kernel_rfl) (by kernel_rfl) (by kernel_rfl) (fun _ _ _ h => h) ⟨Or.inl ⟨by kernel_rfl, ?_⟩, fun _ => rfl⟩ ?_
          rotate_left
          · (intro wx; go_simp; try (with_reducible rfl))
          try simp only [Act.put, List.getElem_toArray, List.getElem_cons_succ, List.getElem_cons_zero, List.setIfInBounds_toArray, List.set_cons_zero, List.set_cons_succ]
          refine wpAnyIn_take (i := 4) (v := ?_) rfl rfl (by kernel_rfl) (by kernel_rfl) (by kernel_rfl) (fun _ _ _ h => h) ⟨Or.inl ⟨by kernel_rfl, ?_⟩, fun _ => rfl⟩ ?_
          rotate_left
          · (intro wx; go_simp; try (with_reducible rfl))
          try simp only [Act.put, List.getElem_toArray, List.getElem_cons_succ, List.getElem_cons_zero, List.setIfInBounds_toArray, List.set_cons_zero, List.set_cons_succ]
          refine wpAnyIn_take (i := 5) (v := ?_) rfl rfl (by kernel_rfl) (by kernel_rfl) (by kernel_rfl) (fun _ _ _ h => h) ⟨Or.inl ⟨by kernel_rfl, ?_⟩, fun _ => rfl⟩ ?_
          rotate_left
          · (intro wx; go_simp; try (with_reducible rfl))
          try simp only [Act.put, List.getElem_toArray, List.getElem_cons_succ, List.getElem_cons_zero, List.setIfInBounds_toArray, List.set_cons_zero, List.set_cons_succ]
          refine wpAnyIn_take (i := 6) (v := ?_) rfl rfl (by kernel_rfl) (by kernel_rfl) (by kernel_rfl) (fun _ _ _ h => h) ⟨Or.inl ⟨by kernel_rfl, ?_⟩, fun _ => rfl⟩ ?_
          rotate_left
          · (intro wx; go_simp; try (with_reducible rfl))
          try simp only [Act.put, List.getElem_toArray, List.getElem_cons_succ, List.getElem_cons_zero, List.setIfInBounds_toArray, List.set_cons_zero, List.set_cons_succ]
          refine wpAnyIn_ready (rs := [7]) (by kernel_rfl) (by simp) ?_
          refine AllReadyIn.cons rfl (fun K hK => ?_) (AllReadyIn.nil)
          go_simp
          refine hK _ _ ?_
          clear hK K
          try simp only [Act.put, List.getElem_toArray, List.getElem_cons_succ, List.getElem_cons_zero, List.setIfInBounds_toArray, List.set_cons_zero, List.set_cons_succ]
          refine wpAnyIn_take (i := 8) (v := ?_) rfl rfl (by kernel_rfl) (by kernel_rfl) (by kernel_rfl) (fun _ _ _ h => h) ⟨Or.inl ⟨by kernel_rfl, ?_⟩, fun _ => rfl⟩ ?_
          rotate_left
          · (intro wx; go_simp; try (with_reducible rfl))
          try simp only [Act.put, List.getElem_toArray, List.getElem_cons_succ, List.getElem_cons_zero, List.setIfInBounds_toArray, List.set_cons_zero, List.set_cons_succ]
          refine wpAnyIn_take (i := 9) (v := ?_) rfl rfl (by kernel_rfl) (by kernel_rfl) (by kernel_rfl) (fun _ _ _ h => h) ⟨Or.inl ⟨by kernel_rfl, ?_⟩, fun _ => rfl⟩ ?_
          rotate_left
          · (intro wx; go_simp; try (with_reducible rfl))
          try simp only [Act.put, List.getElem_toArray, List.getElem_cons_succ, List.getElem_cons_zero, List.setIfInBounds_toArray, List.set_cons_zero, List.set_cons_succ]
          refine wpAnyIn_take (i := 10) (v := ?_) rfl rfl (by kernel_rfl) (by kernel_rfl) (by kernel_rfl) (fun _ _ _ h => h) ⟨Or.inl ⟨by kernel_rfl, ?_⟩, fun _ => rfl⟩ ?_
          rotate_left
          · (intro wx; go_simp; try (with_reducible rfl))
          try simp only [Act.put, List.getElem_toArray, List.getElem_cons_succ, List.getElem_cons_zero, List.setIfInBounds_toArray, List.set_cons_zero, List.set_cons_succ]
          refine wpAnyIn_take (i := 11) (v := undef) rfl rfl (by kernel_rfl) (by kernel_rfl) (by kernel_rfl) (fun _ _ _ h => h) ⟨Or.inr ⟨by kernel_rfl, rfl⟩, fun _ => rfl⟩ ?_
          try simp only [Act.put, List.getElem_toArray, List.getElem_cons_succ, List.getElem_cons_zero, List.setIfInBounds_toArray, List.set_cons_zero, List.set_cons_succ]
          refine wpAnyIn_take (i := 12) (v := undef) rfl rfl (by kernel_rfl) (by kernel_rfl) (by kernel_rfl) (fun _ _ _ h => h) ⟨Or.inr ⟨by kernel_rfl, rfl⟩, fun _ => rfl⟩ ?_
          try simp only [Act.put, List.getElem_toArray, List.getElem_cons_succ, List.getElem_cons_zero, List.setIfInBounds_toArray, List.set_cons_zero, List.set_cons_succ]
          refine wpAnyIn_take (i := 13) (v := undef) rfl rfl (by kernel_rfl) (by kernel_rfl) (by kernel_rfl) (fun _ _ _ h => h) ⟨Or.inr ⟨by kernel_rfl, rfl⟩, fun _ => rfl⟩ ?_
          try simp only [Act.put, List.getElem_toArray, List.getElem_cons_succ, List.getElem_cons_zero, List.setIfInBounds_toArray, List.set_cons_zero, List.set_cons_succ]
          refine wpAnyIn_take (i := 14) (v := undef) rfl rfl (by kernel_rfl) (by kernel_rfl) (by kernel_rfl) (fun _ _ _ h => h) ⟨Or.inr ⟨by kernel_rfl, rfl⟩, fun _ => rfl⟩ ?_
          try simp only [Act.put, List.getElem_toArray, List.getElem_cons_succ, List.getElem_cons_zero, List.setIfInBounds_toArray, List.set_cons_zero, List.set_cons_succ]
          refine wpAnyIn_take (i := 15) (v := undef) rfl rfl (by kernel_rfl) (by kernel_rfl) (by kernel_rfl) (fun _ _ _ h => h) ⟨Or.inr ⟨by kernel_rfl, rfl⟩, fun _ => rfl⟩ ?_
          try simp only [Act.put, List.getElem_toArray, List.getElem_cons_succ, List.getElem_cons_zero, List.setIfInBounds_toArray, List.set_cons_zero, List.set_cons_succ]
          refine wpAnyIn_take (i := 16) (v := undef) rfl rfl (by kernel_rfl) (by kernel_rfl) (by kernel_rfl) (fun _ _ _ h => h) ⟨Or.inr ⟨by kernel_rfl, rfl⟩, fun _ => rfl⟩ ?_
          try simp only [Act.put, List.getElem_toArray, List.getElem_cons_succ, List.getElem_cons_zero, List.setIfInBounds_toArray, List.set_cons_zero, List.set_cons_succ]
          refine wpAnyIn_take (i := 17) (v := undef) rfl rfl (by kernel_rfl) (by kernel_rfl) (by kernel_rfl) (fun _ _ _ h => h) ⟨Or.inr ⟨by kernel_rfl, rfl⟩, fun _ => rfl⟩ ?_
          try simp only [Act.put, List.getElem_toArray, List.getElem_cons_succ, List.getElem_cons_zero, List.setIfInBounds_toArray, List.set_cons_zero, List.set_cons_succ]
          refine wpAnyIn_take (i := 18) (v := undef) rfl rfl (by kernel_rfl) (by kernel_rfl) (by kernel_rfl) (fun _ _ _ h => h) ⟨Or.inr ⟨by kernel_rfl, rfl⟩, fun _ => rfl⟩ ?_
          try simp only [Act.put, List.getElem_toArray, List.getElem_cons_succ, List.getElem_cons_zero, List.setIfInBounds_toArray, List.set_cons_zero, List.set_cons_succ]
          refine wpAnyIn_take (i := 19) (v := undef) rfl rfl (by kernel_rfl) (by kernel_rfl) (by kernel_rfl) (fun _ _ _ h => h) ⟨Or.inr ⟨by kernel_rfl, rfl⟩, fun _ => rfl⟩ ?_
          try simp only [Act.put, List.getElem_toArray, List.getElem_cons_succ, List.getElem_cons_zero, List.setIfInBounds_toArray, List.set_cons_zero, List.set_cons_succ]
          refine wpAnyIn_take (i := 20) (v := undef) rfl rfl (by kernel_rfl) (by kernel_rfl) (by kernel_rfl) (fun _ _ _ h => h) ⟨Or.inr ⟨by kernel_rfl, rfl⟩, fun _ => rfl⟩ ?_
          try simp only [Act.put, List.getElem_toArray, List.getElem_cons_succ, List.getElem_cons_zero, List.setIfInBounds_toArray, List.set_cons_zero, List.set_cons_succ]
          refine wpAnyIn_take (i := 21) (v := undef) rfl rfl (by kernel_rfl) (by kernel_rfl) (by kernel_rfl) (fun _ _ _ h => h) ⟨Or.inr ⟨by kernel_rfl, rfl⟩, fun _ => rfl⟩ ?_
          try simp only [Act.put, List.getElem_toArray, List.getElem_cons_succ, List.getElem_cons_zero, List.setIfInBounds_toArray, List.set_cons_zero, List.set_cons_succ]
          refine wpAnyIn_take (i := 22) (v := ?_) rfl rfl (by kernel_rfl) (by kernel_rfl) (by kernel_rfl) (fun _ _ _ h => h) ⟨Or.inl ⟨by kernel_rfl, ?_⟩, fun _ => rfl⟩ ?_
          rotate_left
          · (intro wx; go_simp; try (with_reducible rfl))
          try simp only [Act.put, List.getElem_toArray, List.getElem_cons_succ, List.getElem_cons_zero, List.setIfInBounds_toArray, List.set_cons_zero, List.set_cons_succ]
          refine wpAnyIn_done (by kernel_rfl) ?_ _
          gi_wp2_with fail
          go_roundw
          case rel => exact ⟨k + 1, K, by omega, by go_num, by rw [HN.out]; exact HJ.out _ _ _ _ J1.out (Turn.of_bl (by repeat' (first | exact Bl.refl _ | with_reducible assumption | with_reducible refine Bl.drew_ ?_ | with_reducible refine Bl.drewN_ ?_ _ | with_reducible refine Bl.alloc_ ?_ _ | with_reducible refine Bl.trans_ ?_ (by assumption) | with_reducible refine Bl.trans_ ?_ (And.left (by assumption))))), ⟨ST.out.1.bl (by repeat' (first | exact Bl.refl _ | with_reducible assumption | with_reducible refine Bl.drew_ ?_ | with_reducible refine Bl.drewN_ ?_ _ | with_reducible refine Bl.alloc_ ?_ _ | with_reducible refine Bl.trans_ ?_ (by assumption) | with_reducible refine Bl.trans_ ?_ (And.left (by assumption)))), ST.out.2⟩⟩
          case measure => simp [intOf]; omega
      · have b1 : decide (0 ≤ d) = false := by simpa using h1
        have HN := Lib.hid (NO.out (by rw [BB.out, decide_eq_false_iff_not]; exact fun h => h1 h.1))
        clear YES NO BB
        gi_wp2_with fail
        refine wpIn_region_any (by kernel_rfl) ?_
        try (change wpAnyIn _ _ _ _ _ _ _ _ _ (World.drew _))
        refine wpAnyIn_take (i := 0) (v := ?_) rfl rfl (by kernel_rfl) (by kernel_rfl) (by kernel_rfl) (fun _ _ _ h => h) ⟨Or.inl ⟨by kernel_rfl, ?_⟩, fun _ => rfl⟩ ?_
        rotate_left
        · (intro wx; go_simp; try (with_reducible rfl))
        try simp only [Act.put, List.getElem_toArray, List.getElem_cons_succ, List.getElem_cons_zero, List.setIfInBounds_toArray, List.set_cons_zero, List.set_cons_succ]
        refine wpAnyIn_take (i := 1) (v := ?_) rfl rfl (by kernel_rfl) (by kernel_rfl) (by kernel_rfl) (fun _ _ _ h => h) ⟨Or.inl ⟨by kernel_rfl, ?_⟩, fun _ => rfl⟩ ?_
        rotate_left
        · (intro wx; go_simp; try (with_reducible rfl))
        try simp only [Act.put, List.getElem_toArray, List.getElem_cons_succ, List.getElem_cons_zero, List.setIfInBounds_toArray, List.set_cons_zero, List.set_cons_succ]
        refine wpAnyIn_ready (rs := [2]) (by kernel_rfl) (by simp) ?_
        refine AllReadyIn.cons rfl (fun K hK => ?_) (AllReadyIn.nil)
        go_simp
        refine hK _ _ ?_
        clear hK K
        try simp only [Act.put, List.getElem_toArray, List.getElem_cons_succ, List.getElem_cons_zero, List.setIfInBounds_toArray, List.set_cons_zero, List.set_cons_succ]
        refine wpAnyIn_take (i := 3) (v := ?_) rfl rfl (by kernel_rfl) (by kernel_rfl) (by kernel_rfl) (fun _ _ _ h => h) ⟨Or.inl ⟨by kernel_rfl, ?_⟩, fun _ => rfl⟩ ?_
        rotate_left
        · (intro wx; go_simp; try (with_reducible rfl))
        try simp only [Act.put, List.getElem_toArray, List.getElem_cons_succ, List.getElem_cons_zero, List.setIfInBounds_toArray, List.set_cons_zero, List.set_cons_succ]
        refine wpAnyIn_take (i := 4) (v := ?_) rfl rfl (by kernel_rfl) (by kernel_rfl) (by kernel_rfl) (fun _ _ _ h => h) ⟨Or.inl ⟨by kernel_rfl, ?_⟩, fun _ => rfl⟩ ?_
        rotate_left
        · (intro wx; go_simp; try (with_reducible rfl))
        try simp only [Act.put, List.getElem_toArray, List.getElem_cons_succ, List.getElem_cons_zero, List.setIfInBounds_toArray, List.set_cons_zero, List.set_cons_succ]
        refine wpAnyIn_take (i := 5) (v := undef) rfl rfl (by kernel_rfl) (by kernel_rfl) (by kernel_rfl) (fun _ _ _ h => h) ⟨Or.inr ⟨by kernel_rfl, rfl⟩, fun _ => rfl⟩ ?_
        try simp only [Act.put, List.getElem_toArray, List.getElem_cons_succ, List.getElem_cons_zero, List.setIfInBounds_toArray, List.set_cons_zero, List.set_cons_succ]
        refine wpAnyIn_take (i := 6) (v := undef) rfl rfl (by kernel_rfl) (by kernel_rfl) (by kernel_rfl) (fun _ _ _ h => h) ⟨Or.inr ⟨by kernel_rfl, rfl⟩, fun _ => rfl⟩ ?_
        try simp only [Act.put, List.getElem_toArray, List.getElem_cons_succ, List.getElem_cons_zero, List.setIfInBounds_toArray, List.set_cons_zero, List.set_cons_succ]
        refine wpAnyIn_take (i := 7) (v := undef) rfl rfl (by kernel_rfl) (by kernel_rfl) (by kernel_rfl) (fun _ _ _ h => h) ⟨Or.inr ⟨by kernel_rfl, rfl⟩, fun _ => rfl⟩ ?_
        try simp only [Act.put, List.getElem_toArray, List.getElem_cons_succ, List.getElem_cons_zero, List.setIfInBounds_toArray, List.set_cons_zero, List.set_cons_succ]
        refine wpAnyIn_take (i := 8) (v := undef) rfl rfl (by kernel_rfl) (by kernel_rfl) (by kernel_rfl) (fun _ _ _ h => h) ⟨Or.inr ⟨by kernel_rfl, rfl⟩, fun _ => rfl⟩ ?_
        try simp only [Act.put, List.getElem_toArray, List.getElem_cons_succ, List.getElem_cons_zero, List.setIfInBounds_toArray, List.set_cons_zero, List.set_cons_succ]
        refine wpAnyIn_take (i := 9) (v := ?_) rfl rfl (by kernel_rfl) (by kernel_rfl) (by kernel_rfl) (fun _ _ _ h => h) ⟨Or.inl ⟨by kernel_rfl, ?_⟩, fun _ => rfl⟩ ?_
        rotate_left
        · (intro wx; go_simp; try (with_reducible rfl))
        try simp only [Act.put, List.getElem_toArray, List.getElem_cons_succ, List.getElem_cons_zero, List.setIfInBounds_toArray, List.set_cons_zero, List.set_cons_succ]
        refine wpAnyIn_take (i := 10) (v := ?_) rfl rfl (by kernel_rfl) (by kernel_rfl) (by kernel_rfl) (fun _ _ _ h => h) ⟨Or.inl ⟨by kernel_rfl, ?_⟩, fun _ => rfl⟩ ?_
        rotate_left
        · (intro wx; go_simp; try (with_reducible rfl))
        try simp only [Act.put, List.getElem_toArray, List.getElem_cons_succ, List.getElem_cons_zero, List.setIfInBounds_toArray, List.set_cons_zero, List.set_cons_succ]
        refine wpAnyIn_take (i := 11) (v := undef) rfl rfl (by kernel_rfl) (by kernel_rfl) (by kernel_rfl) (fun _ _ _ h => h) ⟨Or.inr ⟨by kernel_rfl, rfl⟩, fun _ => rfl⟩ ?_
        try simp only [Act.put, List.getElem_toArray, List.getElem_cons_succ, List.getElem_cons_zero, List.setIfInBounds_toArray, List.set_cons_zero, List.set_cons_succ]
        refine wpAnyIn_take (i := 12) (v := undef) rfl rfl (by kernel_rfl) (by kernel_rfl) (by kernel_rfl) (fun _ _ _ h => h) ⟨Or.inr ⟨by kernel_rfl, rfl⟩, fun _ => rfl⟩ ?_
        try simp only [Act.put, List.getElem_toArray, List.getElem_cons_succ, List.getElem_cons_zero, List.setIfInBounds_toArray, List.set_cons_zero, List.set_cons_succ]
        refine wpAnyIn_take (i := 13) (v := undef) rfl rfl (by kernel_rfl) (by kernel_rfl) (by kernel_rfl) (fun _ _ _ h => h) ⟨Or.inr ⟨by kernel_rfl, rfl⟩, fun _ => rfl⟩ ?_
        try simp only [Act.put, List.getElem_toArray, List.getElem_cons_succ, List.getElem_cons_zero, List.setIfInBounds_toArray, List.set_cons_zero, List.set_cons_succ]
        refine wpAnyIn_take (i := 14) (v := undef) rfl rfl (by kernel_rfl) (by kernel_rfl) (by kernel_rfl) (fun _ _ _ h => h) ⟨Or.inr ⟨by kernel_rfl, rfl⟩, fun _ => rfl⟩ ?_
        try simp only [Act.put, List.getElem_toArray, List.getElem_cons_succ, List.getElem_cons_zero, List.setIfInBounds_toArray, List.set_cons_zero, List.set_cons_succ]
        refine wpAnyIn_take (i := 15) (v := undef) rfl rfl (by kernel_rfl) (by kernel_rfl) (by kernel_rfl) (fun _ _ _ h => h) ⟨Or.inr ⟨by kernel_rfl, rfl⟩, fun _ => rfl⟩ ?_
        try simp only [Act.put, List.getElem_toArray, List.getElem_cons_succ, List.getElem_cons_zero, List.setIfInBounds_toArray, List.set_cons_zero, List.set_cons_succ]
        refine wpAnyIn_take (i := 16) (v := undef) rfl rfl (by kernel_rfl) (by kernel_rfl) (by kernel_rfl) (fun _ _ _ h => h) ⟨Or.inr ⟨by kernel_rfl, rfl⟩, fun _ => rfl⟩ ?_
        try simp only [Act.put, List.getElem_toArray, List.getElem_cons_succ, List.getElem_cons_zero, List.setIfInBounds_toArray, List.set_cons_zero, List.set_cons_succ]
        refine wpAnyIn_take (i := 17) (v := undef) rfl rfl (by kernel_rfl) (by kernel_rfl) (by kernel_rfl) (fun _ _ _ h => h) ⟨Or.inr ⟨by kernel_rfl, rfl⟩, fun _ => rfl⟩ ?_
        try simp only [Act.put, List.getElem_toArray, List.getElem_cons_succ, List.getElem_cons_zero, List.setIfInBounds_toArray, List.set_cons_zero, List.set_cons_succ]
        refine wpAnyIn_take (i := 18) (v := undef) rfl rfl (by kernel_rfl) (by kernel_rfl) (by kernel_rfl) (fun _ _ _ h => h) ⟨Or.inr ⟨by kernel_rfl, rfl⟩, fun _ => rfl⟩ ?_
        try simp only [Act.put, List.getElem_toArray, List.getElem_cons_succ, List.getElem_cons_zero, List.setIfInBounds_toArray, List.set_cons_zero, List.set_cons_succ]
        refine wpAnyIn_take (i := 19) (v := undef) rfl rfl (by kernel_rfl) (by kernel_rfl) (by kernel_rfl) (fun _ _ _ h => h) ⟨Or.inr ⟨by kernel_rfl, rfl⟩, fun _ => rfl⟩ ?_
        try simp only [Act.put, List.getElem_toArray, List.getElem_cons_succ, List.getElem_cons_zero, List.setIfInBounds_toArray, List.set_cons_zero, List.set_cons_succ]
        refine wpAnyIn_take (i := 20) (v := undef) rfl rfl (by kernel_rfl) (by kernel_rfl) (by kernel_rfl) (fun _ _ _ h => h) ⟨Or.inr ⟨by kernel_rfl, rfl⟩, fun _ => rfl⟩ ?_
        try simp only [Act.put, List.getElem_toArray, List.getElem_cons_succ, List.getElem_cons_zero, List.setIfInBounds_toArray, List.set_cons_zero, List.set_cons_succ]
        refine wpAnyIn_take (i := 21) (v := undef) rfl rfl (by kernel_rfl) (by kernel_rfl) (by kernel_rfl) (fun _ _ _ h => h) ⟨Or.inr ⟨by kernel_rfl, rfl⟩, fun _ => rfl⟩ ?_
        try simp only [Act.put, List.getElem_toArray, List.getElem_cons_succ, List.getElem_cons_zero, List.setIfInBounds_toArray, List.set_cons_zero, List.set_cons_succ]
        refine wpAnyIn_take (i := 22) (v := ?_) rfl rfl (by kernel_rfl) (by kernel_rfl) (by kernel_rfl) (fun _ _ _ h => h) ⟨Or.inl ⟨by kernel_rfl, ?_⟩, fun _ => rfl⟩ ?_
        rotate_left
        · (intro wx; go_simp; try (with_reducible rfl))
        try simp only [Act.put, List.getElem_toArray, List.getElem_cons_succ, List.getElem_cons_zero, List.setIfInBounds_toArray, List.set_cons_zero, List.set_cons_succ]
        refine wpAnyIn_done (by kernel_rfl) ?_ _
        gi_wp2_with fail
        go_roundw
        case rel => exact ⟨k + 1, K, by omega, by go_num, by rw [HN.out]; exact HJ.out _ _ _ _ J1.out (Turn.of_bl (by repeat' (first | exact Bl.refl _ | with_reducible assumption | with_reducible refine Bl.drew_ ?_ | with_reducible refine Bl.drewN_ ?_ _ | with_reducible refine Bl.alloc_ ?_ _ | with_reducible refine Bl.trans_ ?_ (by assumption) | with_reducible refine Bl.trans_ ?_ (And.left (by assumption))))), ⟨ST.out.1.bl (by repeat' (first | exact Bl.refl _ | with_reducible assumption | with_reducible refine Bl.drew_ ?_ | with_reducible refine Bl.drewN_ ?_ _ | with_reducible refine Bl.alloc_ ?_ _ | with_reducible refine Bl.trans_ ?_ (by assumption) | with_reducible refine Bl.trans_ ?_ (And.left (by assumption)))), ST.out.2⟩⟩
        case measure => simp [intOf]; omega
    · obtain rfl : k = n := by omega
      gi_wp2_with fail
      go_end0
      exact ⟨⟨_, rfl⟩, K, ST.out, .inl ⟨_, rfl, J1.out⟩⟩

/-- The function that passings hands back keeps the contract of an iterator. -/
theorem pass_stops (n : Nat) (nb fb tb : Nat) (D E : List Int) (hn : n ≤ 24) (w : World) (hI : PIn w nb fb tb n D E) :
    SeqT Try.prog 123 #[.pointer (some ⟨nb, 0, none⟩), .pointer (some ⟨fb, 0, none⟩), .pointer (some ⟨tb, 0, none⟩)] encP (NextPass D E n) (AllPass D E n) (PartPass D E n) (passBlocks nb fb tb) w :=
  fun l J Jx K W hb hK hJ hJx hlt hY hJ0 => pass_walk n nb fb tb D E hn l J Jx K W (hI.turn (Turn.of_bl (S := fun _ => False) hb) (fun _ h => h.elim)) hJ hJx hlt hK hY hJ0

end Go.Proofs.Ytdbjcojlcddhdaa

set_option linter.unusedSimpArgs false
set_option linter.unusedVariables false
namespace Go.Proofs.Ytdbjcojlcddhdaa
open Go.RowKit Go.Shelf
attribute [local go_sem] Oper.semAt_some

theorem OwnA.cap' {w : World} {B : Nat} {v : Value} {L : List Arc3} (h : OwnA w B v L) : ∀ A l c, v = .slice A l c → L.length ≤ c := fun A l c ev => by
  subst ev
  have h' : w.ownsRow B 51 3 (.slice A l c) L.length (cs3 L) := h
  rcases h'.2 with ⟨e, h0⟩ | ⟨g, cap, cur, e, hB, hg, hnc, -⟩
  · injection e with e1 e2 e3
    omega
  · injection e with e1 e2 e3
    omega
theorem NumsAt.there_ {w : World} {b : Nat} {E : List Int} (h : NumsAt w b E) : w.there b 0 24 :=
  there_of_cells fun i hi => ⟨by rw [h.cell i (by rw [h.len]; exact hi)]; rfl, h.free i hi⟩
theorem nums_new (w : World) (t : TypeId) : NumsAt (w.alloc (.cells #[.int .i64 0, .int .i64 0, .int .i64 0, .int .i64 0, .int .i64 0, .int .i64 0, .int .i64 0, .int .i64 0, .int .i64 0, .int .i64 0, .int .i64 0, .int .i64 0, .int .i64 0, .int .i64 0, .int .i64 0, .int .i64 0, .int .i64 0, .int .i64 0, .int .i64 0, .int .i64 0, .int .i64 0, .int .i64 0, .int .i64 0, .int .i64 0] t)) w.heap.size (List.replicate 24 0) := by
  refine ⟨by simp, by simp, fun i hi => ?_, fun i hi => ?_⟩
  · have hi' : i < 24 := by simpa using hi
    rw [List.getElem_replicate]
    match i, hi' with
    | 0, _ => simp [go_sem]
    | 1, _ => simp [go_sem]
    | 2, _ => simp [go_sem]
    | 3, _ => simp [go_sem]
    | 4, _ => simp [go_sem]
    | 5, _ => simp [go_sem]
    | 6, _ => simp [go_sem]
    | 7, _ => simp [go_sem]
    | 8, _ => simp [go_sem]
    | 9, _ => simp [go_sem]
    | 10, _ => simp [go_sem]
    | 11, _ => simp [go_sem]
    | 12, _ => simp [go_sem]
    | 13, _ => simp [go_sem]
    | 14, _ => simp [go_sem]
    | 15, _ => simp [go_sem]
    | 16, _ => simp [go_sem]
    | 17, _ => simp [go_sem]
    | 18, _ => simp [go_sem]
    | 19, _ => simp [go_sem]
    | 20, _ => simp [go_sem]
    | 21, _ => simp [go_sem]
    | 22, _ => simp [go_sem]
    | 23, _ => simp [go_sem]
    | (j + 24), h => exact absurd h (by omega)
  · have := (there_new w t i hi).2
    rwa [Nat.zero_add] at this

theorem cell_new_drewN' (w : World) (n : Nat) (v : Value) (t : TypeId) : ((w.drewN n).alloc (.cells #[v] t)).cell? ⟨w.heap.size, 0, none⟩ = some v := by
  have h : ∀ wz : World, (wz.alloc (.cells #[v] t)).cell? ⟨wz.heap.size, 0, none⟩ = some v := fun wz => by simp [go_sem]
  exact h (w.drewN n)
theorem byB_at' {D E : List Int} {m : Int} {k : Nat} (h : k < D.length) (h' : k < E.length) : byB D E m (k : Int) = decide (0 ≤ D[k] ∧ 0 ≤ E[k] ∧ D[k] + E[k] ≤ m) := by
  unfold byB
  rw [dAt_at h, dAt_at h']

/-- The nodes of these by way of which it is at most so far. -/
def selP (m : Int) (pre : List Arc3) : List Int := (pre.filter fun x => decide (x.2.1 + x.2.2 ≤ m)).map (·.1)
theorem selP_yes {m : Int} {pre : List Arc3} {x : Arc3} (h : x.2.1 + x.2.2 ≤ m) : selP m (pre ++ [x]) = selP m pre ++ [x.1] := by
  unfold selP
  rw [List.filter_append, List.map_append]
  simp [h]
theorem selP_no {m : Int} {pre : List Arc3} {x : Arc3} (h : ¬ (x.2.1 + x.2.2 ≤ m)) : selP m (pre ++ [x]) = selP m pre := by
  unfold selP
  rw [List.filter_append, List.map_append]
  simp [h]
theorem selP_all (D E : List Int) (m : Int) : ∀ k : Nat, selP m (passK D E k) = withinK D E m k
  | 0 => rfl
  | k + 1 => by
    cases hb : bothB D E (k : Int) with
    | false =>
      rw [passK_no hb, selP_all D E m k, withinK_no]
      unfold bothB at hb
      unfold byB
      rw [decide_eq_false_iff_not] at hb ⊢
      exact fun h => hb ⟨h.1, h.2.1⟩
    | true =>
      rw [passK_yes hb]
      unfold bothB at hb
      rw [decide_eq_true_eq] at hb
      by_cases h : dAt D (k : Int) + dAt E (k : Int) ≤ m
      · rw [selP_yes h, selP_all D E m k, withinK_yes]
        unfold byB
        rw [decide_eq_true_eq]
        exact ⟨hb.1, hb.2, h⟩
      · rw [selP_no h, selP_all D E m k, withinK_no]
        unfold byB
        rw [decide_eq_false_iff_not]
        exact fun h' => h h'.2.2
theorem passK_len (D E : List Int) (k : Nat) : (passK D E k).length ≤ k := by
  unfold passK
  rw [List.length_map]
  have := List.length_filter_le (bothB D E) ((List.range k).map Int.ofNat)
  simp at this
  exact this
theorem selP_len (m : Int) (pre : List Arc3) : (selP m pre).length ≤ pre.length := by
  unfold selP
  rw [List.length_map]
  exact List.length_filter_le _ _
theorem withinK_same {D E D' E' : List Int} {m : Int} {k : Nat} (hD : ∀ v : Int, 0 ≤ v → v < k → dAt D v = dAt D' v) (hE : ∀ v : Int, 0 ≤ v → v < k → dAt E v = dAt E' v) : withinK D E m k = withinK D' E' m k := by
  unfold withinK
  refine List.filter_congr fun v hv => ?_
  obtain ⟨j, hj, rfl⟩ := List.mem_map.1 hv
  rw [List.mem_range] at hj
  have h0 : (0 : Int) ≤ Int.ofNat j := Int.natCast_nonneg j
  have h1 : Int.ofNat j < (k : Int) := by show (j : Int) < (k : Int); omega
  unfold byB
  rw [hD _ h0 h1, hE _ h0 h1]
theorem nums_box (w : World) (t : TypeId) (E : List Int) (hE : E.length = 24) : NumsAt (w.alloc (.cells (E.map (Value.int .i64)).toArray t)) w.heap.size E := by
  refine ⟨by simp, hE, fun i hi => ?_, fun i hi => ?_⟩
  · simp [go_sem, hi]
  · simp [go_sem]

set_option maxHeartbeats 400000 in
theorem passings_any (n : Int) (D E : List Int) (hD : D.length = 24) (hE : E.length = 24) (w : World) :
    Calls Try.prog 99 #[.int .i64 n, .agg (D.map (Value.int .i64)).toArray, .agg (E.map (Value.int .i64)).toArray] w fun e w' =>
      e = .returned (.func (.func 123) #[] #[.pointer (some ⟨w.heap.size, 0, none⟩), .pointer (some ⟨w.heap.size + 1, 0, none⟩), .pointer (some ⟨w.heap.size + 2, 0, none⟩)]) ∧
      w' = ((w.alloc (.cells #[.int .i64 n] 2)).alloc (.cells (D.map (Value.int .i64)).toArray 83)).alloc (.cells (E.map (Value.int .i64)).toArray 83) := by
  go_enter Try.func99, Try.ntmps99
  go_wp2
  go_ret
  exact ⟨rfl, rfl⟩

set_option maxRecDepth 100000 in
set_option maxHeartbeats 4000000 in
theorem within_any (k : Nat) (s t m : Int) (A : Option Addr) (n c : Nat) (L : List Arc3) (hn : n = L.length) (hc : n ≤ c) (ho : okB k L = true) (hs : 0 ≤ s ∧ s < k) (ht : 0 ≤ t ∧ t < k) (w : World) (hm : n ≤ 1048576) (H1 : ArcsAt w w.heap.size A L) :
    Calls Try.prog 76 #[.agg #[.int .i64 k, .slice A n c], .int .i64 s, .int .i64 t, .int .i64 m] w (NumsMade (withinL k L s t m) w) := by
  obtain ⟨i0, hi, hz0, hz1, hz2⟩ := info_parts infoInt
  have I0 := Lib.hid hi
  have I1 := Lib.hid hz0
  have I2 := Lib.hid hz1
  have I3 := Lib.hid hz2
  have K1 := Lib.hid H1
  have HN := Lib.hid hn
  have HO := Lib.hid ho
  have HRO := Lib.hid (revL_ok ho)
  have HRL := Lib.hid (revL_len (okB_elim ho).2.2.2.2)
  have hN24 := (okB_elim ho).2.1
  clear H1 hn hi hz0 hz1 hz2
  refine (callsIn_wide (n := 0)).1 ?_
  refine callsIn_of_wp_marks Try.func76 rfl trivial ?_ rfl
  simp only [Try.ntmps76, List.size_toArray, List.length_cons, List.length_nil, Nat.reduceAdd, Nat.reduceSub, Array.replicate_succ, Array.replicate_zero, List.push_toArray, List.append_toArray, List.nil_append, List.cons_append]
  gi_wp2_with fail
  obtain ⟨W, hW⟩ : ∃ W, W = (((w.alloc (.cells #[.int .i64 k, .slice A n c] 26)).alloc (.cells #[.int .i64 m] 2)).alloc (.cells #[.slice none 0 0] 38)) := ⟨_, rfl⟩
  have HBW := Lib.hid (show Bl w W from by rw [hW]; exact ((Bl.alloc_ (Bl.refl w) _).alloc_ _).alloc_ _)
  have HSH := Lib.hid (show ∀ wx, Bl W wx → wx.cell? ⟨w.heap.size, 0, none⟩ = some (.int .i64 k) ∧ wx.cell? ⟨w.heap.size, 1, none⟩ = some (.slice A n c) from fun wx hb => by rw [hW] at hb; exact box2 ((Bl.alloc_ (Bl.alloc_ (Bl.refl _) _) _).trans_ hb))
  have HMX := Lib.hid (show ∀ wx, Bl W wx → wx.cell? ⟨w.heap.size + 1, 0, none⟩ = some (.int .i64 m) ∧ wx.cell? ⟨w.heap.size + 2, 0, none⟩ = some (.slice none 0 0) ∧ wx.frozen? ⟨w.heap.size + 2, 0, none⟩ = false from fun wx hb => by
    obtain ⟨h1, h2⟩ := bcell hb
    have hs : W.heap.size = w.heap.size + 3 := by rw [hW]; simp
    rw [h1 _ _ (by omega), h1 _ _ (by omega), h2 _ _ (by omega), hW]
    exact ⟨by simp [go_sem], by simp [go_sem], by simp [go_sem]⟩)
  have hs0 : W.heap.size = w.heap.size + 3 := by rw [hW]; simp
  rw [← hW]
  clear hW ho
  refine wpIn_region_held (S := fun wx => wx.cell? ⟨w.heap.size, 0, none⟩ = some (.int .i64 k) ∧ wx.cell? ⟨w.heap.size, 1, none⟩ = some (.slice A n c)) (by kernel_rfl) ?_ (fun hHeld => ?_)
  · (exact HSH.out _ (by repeat' (first | exact Bl.refl _ | with_reducible assumption | with_reducible refine Bl.drew_ ?_ | with_reducible refine Bl.drewN_ ?_ _ | with_reducible refine Bl.alloc_ ?_ _ | with_reducible refine Bl.trans_ ?_ (by assumption) | with_reducible refine Bl.trans_ ?_ (And.left (by assumption)))))
  refine wpAnyH_take (i := 0) (v := ?_) rfl (by kernel_rfl) (by kernel_rfl) (by kernel_rfl) (fun _ _ _ h => h) (Or.inl ⟨by kernel_rfl, ?_⟩) (by assumption) ?_
  rotate_left
  · (intro wx hSw; (try dsimp only at hSw); go_simp; try (with_reducible rfl))
  try simp only [Act.put, List.getElem_toArray, List.getElem_cons_succ, List.getElem_cons_zero, List.setIfInBounds_toArray, List.set_cons_zero, List.set_cons_succ]
  refine wpAnyH_take (i := 1) (v := ?_) rfl (by kernel_rfl) (by kernel_rfl) (by kernel_rfl) (fun _ _ _ h => h) (Or.inl ⟨by kernel_rfl, ?_⟩) (by assumption) ?_
  rotate_left
  · (intro wx hSw; (try dsimp only at hSw); go_simp; try (with_reducible rfl))
  try simp only [Act.put, List.getElem_toArray, List.getElem_cons_succ, List.getElem_cons_zero, List.setIfInBounds_toArray, List.set_cons_zero, List.set_cons_succ]
  refine wpAnyH_take (i := 2) (v := ?_) rfl (by kernel_rfl) (by kernel_rfl) (by kernel_rfl) (fun _ _ _ h => h) (Or.inl ⟨by kernel_rfl, ?_⟩) (by assumption) ?_
  rotate_left
  · (intro wx hSw; (try dsimp only at hSw); go_simp; try (with_reducible rfl))
  try simp only [Act.put, List.getElem_toArray, List.getElem_cons_succ, List.getElem_cons_zero, List.setIfInBounds_toArray, List.set_cons_zero, List.set_cons_succ]
  refine wpAnyH_take (i := 3) (v := ?_) rfl (by kernel_rfl) (by kernel_rfl) (by kernel_rfl) (fun _ _ _ h => h) (Or.inl ⟨by kernel_rfl, ?_⟩) (by assumption) ?_
  rotate_left
  · (intro wx hSw; (try dsimp only at hSw); go_simp; try (with_reducible rfl))
  try simp only [Act.put, List.getElem_toArray, List.getElem_cons_succ, List.getElem_cons_zero, List.setIfInBounds_toArray, List.set_cons_zero, List.set_cons_succ]
  refine wpAnyH_take (i := 5) (v := ?_) rfl (by kernel_rfl) (by kernel_rfl) (by kernel_rfl) (fun _ _ _ h => h) (Or.inl ⟨by kernel_rfl, ?_⟩) (by assumption) ?_
  rotate_left
  · (intro wx hSw; (try dsimp only at hSw); go_simp; try (with_reducible rfl))
  try simp only [Act.put, List.getElem_toArray, List.getElem_cons_succ, List.getElem_cons_zero, List.setIfInBounds_toArray, List.set_cons_zero, List.set_cons_succ]
  refine wpAnyH_take (i := 7) (v := ?_) rfl (by kernel_rfl) (by kernel_rfl) (by kernel_rfl) (fun _ _ _ h => h) (Or.inl ⟨by kernel_rfl, ?_⟩) (by assumption) ?_
  rotate_left
  · (intro wx hSw; (try dsimp only at hSw); go_simp; try (with_reducible rfl))
  try simp only [Act.put, List.getElem_toArray, List.getElem_cons_succ, List.getElem_cons_zero, List.setIfInBounds_toArray, List.set_cons_zero, List.set_cons_succ]
  refine wpAnyH_ready (rs := [4]) (by kernel_rfl) (by simp) ?_
  refine AllReadyH.cons rfl (fun K hK => ?_) AllReadyH.nil
  go_simp
  (go_at_call 73; refine (distances_any k s A n c L HN.out hc HO.out hs.1 hs.2 _ (K1.out.bl (HBW.out.trans_ (by repeat' (first | exact Bl.refl _ | with_reducible assumption | with_reducible refine Bl.drew_ ?_ | with_reducible refine Bl.drewN_ ?_ _ | with_reducible refine Bl.alloc_ ?_ _ | with_reducible refine Bl.trans_ ?_ (by assumption) | with_reducible refine Bl.trans_ ?_ (And.left (by assumption))))))).mono ?_; rintro e w_1 ⟨E, rfl, hE, hEd, hb1⟩)
  try (go_wp2_with fail)
  refine hK.out _ _ ?_ (fun hHeld => ?_)
  · (exact HSH.out _ (by repeat' (first | exact Bl.refl _ | with_reducible assumption | with_reducible refine Bl.drew_ ?_ | with_reducible refine Bl.drewN_ ?_ _ | with_reducible refine Bl.alloc_ ?_ _ | with_reducible refine Bl.trans_ ?_ (by assumption) | with_reducible refine Bl.trans_ ?_ (And.left (by assumption)))))
  clear hK K
  try simp only [Act.put, List.getElem_toArray, List.getElem_cons_succ, List.getElem_cons_zero, List.setIfInBounds_toArray, List.set_cons_zero, List.set_cons_succ]
  refine wpAnyH_ready (rs := [6]) (by kernel_rfl) (by simp) ?_
  refine AllReadyH.cons rfl (fun K hK => ?_) AllReadyH.nil
  go_simp
  (go_at_call 25; refine (implReversed_any k A n c L HN.out _ hm (K1.out.bl (HBW.out.trans_ (by repeat' (first | exact Bl.refl _ | with_reducible assumption | with_reducible refine Bl.drew_ ?_ | with_reducible refine Bl.drewN_ ?_ _ | with_reducible refine Bl.alloc_ ?_ _ | with_reducible refine Bl.trans_ ?_ (by assumption) | with_reducible refine Bl.trans_ ?_ (And.left (by assumption))))))).mono ?_; rintro e w_2 ⟨v6, rfl, hv6, hb2⟩; rw [show revN (k : Int) L = (k : Int) from if_pos HO.out]; rw [show revG (k : Int) L = revL L from if_pos HO.out] at hv6; have hcap := OwnA.cap' hv6; obtain ⟨A6, c6, rfl, ha6, -⟩ := hv6.shape; have V_2 := Lib.hid ha6; have HC6 := Lib.hid (hcap _ _ _ rfl); clear hv6 hcap ha6)
  try (go_wp2_with fail)
  refine hK.out _ _ ?_ (fun hHeld => ?_)
  · (exact HSH.out _ (by repeat' (first | exact Bl.refl _ | with_reducible assumption | with_reducible refine Bl.drew_ ?_ | with_reducible refine Bl.drewN_ ?_ _ | with_reducible refine Bl.alloc_ ?_ _ | with_reducible refine Bl.trans_ ?_ (by assumption) | with_reducible refine Bl.trans_ ?_ (And.left (by assumption)))))
  clear hK K
  try simp only [Act.put, List.getElem_toArray, List.getElem_cons_succ, List.getElem_cons_zero, List.setIfInBounds_toArray, List.set_cons_zero, List.set_cons_succ]
  refine wpAnyH_ready (rs := [8]) (by kernel_rfl) (by simp) ?_
  refine AllReadyH.cons rfl (fun K hK => ?_) AllReadyH.nil
  go_simp
  (go_at_call 73; refine (distances_any k t A6 (revL L).length c6 (revL L) rfl HC6.out HRO.out ht.1 ht.2 _ V_2.out).mono ?_; rintro e w_3 ⟨F, rfl, hF, hFd, hb3⟩)
  try (go_wp2_with fail)
  refine hK.out _ _ ?_ (fun hHeld => ?_)
  · (exact HSH.out _ (by repeat' (first | exact Bl.refl _ | with_reducible assumption | with_reducible refine Bl.drew_ ?_ | with_reducible refine Bl.drewN_ ?_ _ | with_reducible refine Bl.alloc_ ?_ _ | with_reducible refine Bl.trans_ ?_ (by assumption) | with_reducible refine Bl.trans_ ?_ (And.left (by assumption)))))
  clear hK K
  try simp only [Act.put, List.getElem_toArray, List.getElem_cons_succ, List.getElem_cons_zero, List.setIfInBounds_toArray, List.set_cons_zero, List.set_cons_succ]
  refine wpAnyH_ready (rs := [9]) (by kernel_rfl) (by simp) ?_
  refine AllReadyH.cons rfl (fun K hK => ?_) AllReadyH.nil
  go_simp
  (go_at_call 99; refine (passings_any k E F hE hF _).mono ?_; rintro e w_4 ⟨rfl, hw4⟩; have hb4 : Bl w_3 w_4 := (by rw [hw4]; exact ((Bl.alloc_ (Bl.refl _) _).alloc_ _).alloc_ _); have HW4 := Lib.hid hw4; clear hw4)
  try (go_wp2_with fail)
  refine hK.out _ _ ?_ (fun hHeld => ?_)
  · (exact HSH.out _ (by repeat' (first | exact Bl.refl _ | with_reducible assumption | with_reducible refine Bl.drew_ ?_ | with_reducible refine Bl.drewN_ ?_ _ | with_reducible refine Bl.alloc_ ?_ _ | with_reducible refine Bl.trans_ ?_ (by assumption) | with_reducible refine Bl.trans_ ?_ (And.left (by assumption)))))
  clear hK K
  try simp only [Act.put, List.getElem_toArray, List.getElem_cons_succ, List.getElem_cons_zero, List.setIfInBounds_toArray, List.set_cons_zero, List.set_cons_succ]
  refine wpAnyH_done (by kernel_rfl) ?_ _
  refine NoOut.normal ?_
  clear hHeld
  gi_wp2_with fail
  have B3 := Lib.hid (show Bl W w_3 from (by repeat' (first | exact Bl.refl _ | with_reducible assumption | with_reducible refine Bl.drew_ ?_ | with_reducible refine Bl.drewN_ ?_ _ | with_reducible refine Bl.alloc_ ?_ _ | with_reducible refine Bl.trans_ ?_ (by assumption) | with_reducible refine Bl.trans_ ?_ (And.left (by assumption)))))
  have B4 := Lib.hid (B3.out.trans_ hb4)
  have hin : PIn w_4 w_3.heap.size (w_3.heap.size + 1) (w_3.heap.size + 2) k E F := by
    rw [HW4.out]
    refine ⟨by simp [go_sem], ?_, ?_⟩
    · have h := (nums_box (w_3.alloc (.cells #[.int .i64 (k : Int)] 2)) 83 E hE).bl (Bl.alloc_ (Bl.refl _) (.cells (F.map (Value.int .i64)).toArray 83))
      rw [World.size_alloc] at h
      exact h
    · have h := nums_box ((w_3.alloc (.cells #[.int .i64 (k : Int)] 2)).alloc (.cells (E.map (Value.int .i64)).toArray 83)) 83 F hF
      rw [World.size_alloc, World.size_alloc] at h
      exact h
  have PIN := Lib.hid hin
  have hs4 : w_4.heap.size = w_3.heap.size + 3 := by rw [HW4.out]; simp
  have hs3 := B3.out.size
  have DE := Lib.hid (show E.take k = distL k L s from hEd)
  have DF := Lib.hid (show F.take k = distL k (revL L) t from hFd)
  have hBd := Lib.hid (fun v => distL_top (s := s) HO.out hs.1 hs.2 v)
  have hBe := Lib.hid (fun v => distL_top (s := t) HRO.out ht.1 ht.2 v)
  have DTK := Lib.hid (show ∀ (X : List Int) (v : Int), X.length = 24 → 0 ≤ v → v < (k : Int) → dAt (X.take k) v = dAt X v from fun X v hX h0 h1 => by
    unfold dAt
    simp only [List.getD_eq_getElem?_getD]
    rw [List.getElem?_take, if_pos (by omega)])
  have EL := Lib.hid hE
  have FL := Lib.hid hF
  obtain ⟨m0, m1, m2⟩ := HMX.out _ B4.out
  clear hb4 hb1 hb2 hb3 hE hF hEd hFd hin
  have hvb : w.heap.size + 1 + 1 = w.heap.size + 2 := rfl
  have hfin : PIn w_4 w_3.heap.size (w_3.heap.size + 1) (w_3.heap.size + 2) k E F := PIN.out
  refine wpIn_range (gf := 123) (lb := #[.pointer (some ⟨w_3.heap.size, 0, none⟩), .pointer (some ⟨w_3.heap.size + 1, 0, none⟩), .pointer (some ⟨w_3.heap.size + 2, 0, none⟩)]) ?e1 ?e2
    (pass_stops k w_3.heap.size (w_3.heap.size + 1) (w_3.heap.size + 2) E F (by omega) w_4 hfin) (Bl.refl _) (fun i hi => hfin.lt hi) ?e3
    (fun pre K W' => ∃ v, (∀ i, K i ↔ (i = w.heap.size + 2 ∨ i = w.heap.size + 1 ∨ v.ownBlock = some i)) ∧ (W'.cell? ⟨w.heap.size + 2, 0, none⟩ = some v ∧ W'.frozen? ⟨w.heap.size + 2, 0, none⟩ = false) ∧ W'.cell? ⟨w.heap.size + 1, 0, none⟩ = some (.int .i64 m) ∧ OwnN W' (w.heap.size + 3) v (selP m pre))
    (fun _ _ _ _ => False)
    (fun pre x a K W' => ∃ xb v, (∀ i, K i ↔ (i = w.heap.size + 2 ∨ i = w.heap.size + 1 ∨ v.ownBlock = some i ∨ i = xb)) ∧ (W'.cell? ⟨w.heap.size + 2, 0, none⟩ = some v ∧ W'.frozen? ⟨w.heap.size + 2, 0, none⟩ = false) ∧ W'.cell? ⟨w.heap.size + 1, 0, none⟩ = some (.int .i64 m) ∧ OwnN W' (w.heap.size + 3) v (selP m pre) ∧
      (xb ≠ w.heap.size + 2 ∧ xb ≠ w.heap.size + 1 ∧ v.ownBlock ≠ some xb ∧ W'.cell? ⟨xb, 0, none⟩ = some (.int .i64 x.1) ∧ W'.cell? ⟨xb, 1, none⟩ = some (.int .i64 x.2.1) ∧ W'.cell? ⟨xb, 2, none⟩ = some (.int .i64 x.2.2)) ∧
      a = { tmps := #[.agg #[.int .i64 k, .slice A n c], .int .i64 s, .int .i64 t, .int .i64 m, .pointer (some ⟨w.heap.size, 0, none⟩), undef, undef, .pointer (some ⟨w.heap.size + 1, 0, none⟩), .slice none 0 0, .pointer (some ⟨w.heap.size + 1 + 1, 0, none⟩), .pointer (some ⟨xb, 0, none⟩), .pointer (some ⟨w.heap.size, 0, none⟩), .int .i64 k, .agg #[.int .i64 k, .slice A n c], .int .i64 s, .agg (E.map (Value.int .i64)).toArray, .agg #[.int .i64 k, .slice A n c], .agg #[.int .i64 k, .slice A6 (revL L).length c6], .int .i64 t, .agg (F.map (Value.int .i64)).toArray,
            .func (.func 123) #[] #[.pointer (some ⟨w_3.heap.size, 0, none⟩), .pointer (some ⟨w_3.heap.size + 1, 0, none⟩), .pointer (some ⟨w_3.heap.size + 2, 0, none⟩)], .agg #[.int .i64 x.1, .int .i64 x.2.1, .int .i64 x.2.2], undef, undef, undef, undef, undef, undef, undef, undef, undef, undef, undef, undef, undef], defers := [] })
    (fun i => i = w.heap.size + 2 ∨ i = w.heap.size + 1) ?hK0 ?hI (fun _ _ _ _ _ h _ => h) ?hM ?hlt ⟨.slice none 0 0, fun i => by simp [Value.ownBlock], ⟨m1, m2⟩, m0, OwnN.nil_ _ _⟩ ?assign ?body ?done (fun _ _ _ _ _ _ _ h _ _ _ => h.elim)
  case e1 => rfl
  case e2 => exact enters_of Try.func123 (by kernel_rfl) rfl
  case e3 => exact fun x => rfl
  case hK0 =>
    rintro i hi hp
    rcases hp with h | h | h <;> (rcases hi with h' | h' <;> omega)
  case hI =>
    rintro pre K X Y ⟨v, hk, ⟨h1, h2⟩, h3, h4⟩ ht
    have l1 := World.block_lt_of_cell? _ _ h1
    have l3 := World.block_lt_of_cell? _ _ h3
    simp only at l1 l3
    obtain ⟨e1, e2⟩ := ht.cells l1 (fun h => h ((hk _).2 (.inl rfl))) 0
    exact ⟨v, hk, ⟨e1.trans h1, e2.trans h2⟩, (ht.cells l3 (fun h => h ((hk _).2 (.inr (.inl rfl)))) 0).1.trans h3, Owns.turn h4 ht (fun g hg h => h ((hk g).2 (.inr (.inr hg))))⟩
  case hM =>
    rintro pre x a K X Y ⟨xb, v, hk, ⟨h1, h2⟩, h3, h4, ⟨n1, n2, n3, c0, c1, c2⟩, he⟩ ht
    have l1 := World.block_lt_of_cell? _ _ h1
    have l3 := World.block_lt_of_cell? _ _ h3
    have lx := World.block_lt_of_cell? _ _ c0
    simp only at l1 l3 lx
    obtain ⟨e1, e2⟩ := ht.cells l1 (fun h => h ((hk _).2 (.inl rfl))) 0
    have hs := fun o => (ht.cells lx (fun h => h ((hk _).2 (.inr (.inr (.inr rfl))))) o).1
    exact ⟨xb, v, hk, ⟨e1.trans h1, e2.trans h2⟩, (ht.cells l3 (fun h => h ((hk _).2 (.inr (.inl rfl)))) 0).1.trans h3, Owns.turn h4 ht (fun g hg h => h ((hk g).2 (.inr (.inr (.inl hg))))), ⟨n1, n2, n3, (hs 0).trans c0, (hs 1).trans c1, (hs 2).trans c2⟩, he⟩
  case hlt =>
    rintro pre K X ⟨v, hk, ⟨h1, h2⟩, h3, h4⟩ i hi
    rcases (hk i).1 hi with rfl | rfl | h
    · exact World.block_lt_of_cell? _ _ h1
    · exact World.block_lt_of_cell? _ _ h3
    · exact (Owns.lt h4 i h).2
  case assign =>
    rintro l pre ⟨x, y, z⟩ K X R ⟨v, hk, ⟨h1, h2⟩, h3, h4⟩ hpre hR
    have HKK := Lib.hid hk
    have HC1 := Lib.hid h1
    have HC2 := Lib.hid h2
    have HC3 := Lib.hid h3
    have HC4 := Lib.hid h4
    have HR := Lib.hid hR
    have l1 := World.block_lt_of_cell? _ _ h1
    simp only at l1
    clear hk h1 h2 h3 h4 hpre hR m0 m1 m2 hfin
    dsimp only [encP]
    gi_wp2_with fail
    have hx := bcell (show Bl X (X.alloc (.cells #[.int .i64 x, .int .i64 y, .int .i64 z] 115)) from (by repeat' (first | exact Bl.refl _ | with_reducible assumption | with_reducible refine Bl.drew_ ?_ | with_reducible refine Bl.drewN_ ?_ _ | with_reducible refine Bl.alloc_ ?_ _ | with_reducible refine Bl.trans_ ?_ (by assumption) | with_reducible refine Bl.trans_ ?_ (And.left (by assumption)))))
    refine HR.out _ (fun i => i = w.heap.size + 2 ∨ i = w.heap.size + 1 ∨ v.ownBlock = some i ∨ i = X.heap.size) _ ⟨Turn.of_bl (by repeat' (first | exact Bl.refl _ | with_reducible assumption | with_reducible refine Bl.drew_ ?_ | with_reducible refine Bl.drewN_ ?_ _ | with_reducible refine Bl.alloc_ ?_ _ | with_reducible refine Bl.trans_ ?_ (by assumption) | with_reducible refine Bl.trans_ ?_ (And.left (by assumption)))), fun i hi => ?_⟩ ⟨X.heap.size, v, fun i => Iff.rfl, ⟨(hx.1 _ _ l1).trans HC1.out, (hx.2 _ _ l1).trans HC2.out⟩, (hx.1 _ _ (by omega)).trans HC3.out, OwnN.bl HC4.out (by repeat' (first | exact Bl.refl _ | with_reducible assumption | with_reducible refine Bl.drew_ ?_ | with_reducible refine Bl.drewN_ ?_ _ | with_reducible refine Bl.alloc_ ?_ _ | with_reducible refine Bl.trans_ ?_ (by assumption) | with_reducible refine Bl.trans_ ?_ (And.left (by assumption)))),
      ⟨by omega, by omega, fun h => by have := (Owns.lt HC4.out _ h).2; omega, by simp [go_sem], by simp [go_sem], by simp [go_sem]⟩, rfl⟩
    rcases hi with h | h | h | h
    · exact .inl ((HKK.out i).2 (.inl h))
    · exact .inl ((HKK.out i).2 (.inr (.inl h)))
    · exact .inl ((HKK.out i).2 (.inr (.inr h)))
    · exact .inr (by omega)
  case body =>
    rintro l pre ⟨x, y, z⟩ a₁ K X ⟨xb, v, hk, ⟨h1, h2⟩, h3, h4, ⟨n1, n2, n3, c0, c1, c2⟩, rfl⟩ ⟨Z, hZ⟩
    have hp := passK_ids E F k (x, y, z) (by rw [hZ]; simp)
    obtain ⟨⟨p0, p1⟩, p2, p3, p4, p5⟩ := hp
    simp only at p0 p1 p2 p3 p4 p5 c0 c1 c2
    have hyb : y ≤ 23000 := by rw [p2, ← DTK.out E x EL.out p0 p1, DE.out]; exact (hBd.out x).2
    have hzb : z ≤ 23000 := by rw [p3, ← DTK.out F x FL.out p0 p1, DF.out]; exact (hBe.out x).2
    have a1 : IntKind.i64.wrap (y + z) = y + z := IntWalk.i64_in _ (by omega)
    have l1 := World.block_lt_of_cell? _ _ h1
    simp only at l1
    have HKK := Lib.hid hk
    have OW := Lib.hid h4
    have hlen : (selP m pre).length ≤ 24 := by
      have h1 := selP_len m pre
      have h2 := passK_len E F k
      have h3 := congrArg List.length hZ
      simp only [List.length_append, List.length_cons] at h3
      omega
    clear hk hZ m0 m1 m2 hfin p2 p3 h4
    by_cases hle : y + z ≤ m
    · have b1 : decide (y + z ≤ m) = true := by simpa using hle
      gi_wp2_with (refine wpListIn_append_any _ rfl (.tmp 29) (.tmp 32) 38 rfl (w.heap.size + 3) 2 i0 _ 1 8 Try.underlying38 I0.out I1.out I2.out I3.out rfl (by decide) v (selP m pre).length (csI (selP m pre)) rfl (World.ownsRow.alloc OW.out _) (X.heap.size + 1) (some ⟨X.heap.size, 0, none⟩) 1 1 [.int .i64 x] rfl ?c0 (by simp [Value.oneCell']) ?c3 ?c4 ?c5 ?_)
      case c0 =>
        refine ⟨rfl, fun _ => ⟨_, rfl, by show X.heap.size < X.heap.size + 1; omega, fun j u hj => ?_⟩⟩
        match j, hj with
        | 0, hj => simp at hj; subst hj; simp [Addr.add, go_sem]
        | (j + 1), hj => simp at hj
      case c3 => unfold maxLen; omega
      case c4 => omega
      case c5 => first | omega | (simp; omega)
      intro v' w7 hown' hgrow hwh
      have O7 := Lib.hid (OwnN.snoc (V := selP m pre) (x := x) (n := (selP m pre).length) rfl (by simpa using hown'))
      rw [← show selP m (pre ++ [(x, y, z)]) = selP m pre ++ [x] from selP_yes (x := (x, y, z)) (by show y + z ≤ m; omega)] at O7
      have hvb : v.ownBlock ≠ some (w.heap.size + 2) := fun h => by have := (Owns.lt OW.out _ h).1; omega
      have hmb : v.ownBlock ≠ some (w.heap.size + 1) := fun h => by have := (Owns.lt OW.out _ h).1; omega
      have l3 := World.block_lt_of_cell? _ _ h3
      simp only at l3
      have hb7 := hgrow.block (w.heap.size + 2) (by simp; omega) (fun h => hvb h.symm)
      have hc7 := (bcell (show Bl X (X.alloc (.cells #[.int .i64 x] 2)) from (by repeat' (first | exact Bl.refl _ | with_reducible assumption | with_reducible refine Bl.drew_ ?_ | with_reducible refine Bl.drewN_ ?_ _ | with_reducible refine Bl.alloc_ ?_ _ | with_reducible refine Bl.trans_ ?_ (by assumption) | with_reducible refine Bl.trans_ ?_ (And.left (by assumption))))))
      have r1 : w7.cell? ⟨w.heap.size + 2, 0, none⟩ = some v := (World.cell?_of_block (a := ⟨w.heap.size + 2, 0, none⟩) hb7).trans ((hc7.1 _ _ l1).trans h1)
      have r2 : w7.frozen? ⟨w.heap.size + 2, 0, none⟩ = false := (World.frozen?_of_block (a := ⟨w.heap.size + 2, 0, none⟩) hb7).trans ((hc7.2 _ _ l1).trans h2)
      have r3 := (World.cell?_of_block (a := ⟨w.heap.size + 1, 0, none⟩) (hgrow.block (w.heap.size + 1) (by simp; omega) (fun h => hmb h.symm))).trans ((hc7.1 _ _ l3).trans h3)
      have hv'b : ∀ g, v'.ownBlock = some g → g ≠ w.heap.size + 2 := fun g hg e => by have := (Owns.lt O7.out g hg).1; omega
      have GR := Lib.hid hgrow
      have WH := Lib.hid hwh
      obtain ⟨A9, c9, hv9, -⟩ := OwnN.shape O7.out
      obtain ⟨z9, hz9⟩ : ∃ z9, z9 = (selP m (pre ++ [(x, y, z)])).length := ⟨_, rfl⟩
      rw [← hz9] at hv9
      subst hv9
      clear hown' hgrow hwh hb7 hc7 hz9
      gi_wp2_with fail
      refine ⟨fun i => i = w.heap.size + 2 ∨ i = w.heap.size + 1 ∨ (Value.slice A9 z9 c9).ownBlock = some i, ⟨?_, fun i hi => ?_⟩, .slice A9 z9 c9, fun i => Iff.rfl, ⟨?_, ?_⟩, ?_, ?_⟩
      · refine Turn.set (p := ⟨w.heap.size + 2, 0, none⟩) ((Turn.of_bl (S := K) (show Bl X (X.alloc (.cells #[.int .i64 x] 2)) from (by repeat' (first | exact Bl.refl _ | with_reducible assumption | with_reducible refine Bl.drew_ ?_ | with_reducible refine Bl.drewN_ ?_ _ | with_reducible refine Bl.alloc_ ?_ _ | with_reducible refine Bl.trans_ ?_ (by assumption) | with_reducible refine Bl.trans_ ?_ (And.left (by assumption)))))).trans (Turn.of_grown (S := fun i => v.ownBlock = some i) GR.out (fun i e => e)) (fun i _ e => (HKK.out i).2 (.inr (.inr (.inl e))))) (.inl ((HKK.out _).2 (.inl rfl))) _
      · rcases hi with h | h | h
        · exact .inl ((HKK.out i).2 (.inl h))
        · exact .inl ((HKK.out i).2 (.inr (.inl h)))
        · rcases WH.out with e | e
          · exact .inl ((HKK.out i).2 (.inr (.inr (.inl (by rw [← e]; exact h)))))
          · rw [e] at h
            injection h with h
            first
              | exact .inr (by omega)
              | (simp at h; exact .inr (by omega))
      · exact World.cell?_setCell_same' _ _ _ (by rw [r1]; rfl)
      · rw [World.frozen?_setCell]; exact r2
      · rw [World.cell?_setCell_other _ _ _ _ (by intro e; injection e with e; omega)]; exact r3
      · exact Owns.setOther O7.out (fun g hg => hv'b g hg) _
    · have b1 : decide (y + z ≤ m) = false := by simpa using hle
      gi_wp2_with fail
      exact ⟨fun i => i = w.heap.size + 2 ∨ i = w.heap.size + 1 ∨ v.ownBlock = some i, ⟨Turn.refl _ _, fun i hi => .inl ((HKK.out i).2 (by rcases hi with h | h | h; exact .inl h; exact .inr (.inl h); exact .inr (.inr (.inl h))))⟩, v, fun i => Iff.rfl, ⟨h1, h2⟩, h3, by rw [selP_no (m := m) (pre := pre) (x := (x, y, z)) (by show ¬ (y + z ≤ m); omega)]; exact OW.out⟩
  case done =>
    rintro D xs K X hD rfl ⟨v, hk, ⟨h1, h2⟩, h3, h4⟩ hT hKD hdef
    have HKK := Lib.hid hk
    have OW := Lib.hid h4
    have HT := Lib.hid hT
    have HD := Lib.hid hdef
    have HKD := Lib.hid hKD
    clear hk h2 h3 h4 hT hKD hdef m0 m1 m2 hfin
    gi_wp2_with fail
    refine ⟨by simp, .inl ⟨_, _, rfl, run_takeDeferred HD.out, ?_⟩⟩
    refine ⟨v, by simp [results, Try.results76, go_sem], v, rfl, ?_, ?_⟩
    · have hput := Owns.turn OW.out (turn_put (fun i => i = D) X (.deferred none) rfl) (fun g hg e => HKD.out (by rw [← e]; exact (HKK.out g).2 (.inr (.inr hg))))
      have hsel : selP m (passK E F k) = withinL k L s t m := by
        rw [selP_all]
        unfold withinL
        rw [← withinK_all, Int.toNat_natCast]
        refine withinK_same (fun v h0 h1 => ?_) (fun v h0 h1 => ?_)
        · rw [← DTK.out E v EL.out h0 h1, DE.out]
        · rw [← DTK.out F v FL.out h0 h1, DF.out]
      rw [← hsel]
      exact Owns.low hput (by omega)
    · exact Turn.to_bl (Turn.to_bl (HBW.out.trans_ B4.out) HT.out (fun i hi => by rcases hi with h | h <;> omega)) (turn_put (fun i => i = D) X (.deferred none) rfl) (fun i hi => by rw [hi]; omega)

end Go.Proofs.Ytdbjcojlcddhdaa

set_option linter.unusedSimpArgs false
set_option linter.unusedVariables false
namespace Go.Proofs.Ytdbjcojlcddhdaa
open Go.RowKit

set_option maxRecDepth 100000 in
set_option maxHeartbeats 2000000 in
theorem implBetween_any (N s t m : Int) (A : Option Addr) (n c : Nat) (L : List Arc3) (hn : n = L.length) (hc : n ≤ c) (w : World) (hm : n ≤ 1048576) (H1 : ArcsAt w w.heap.size A L) :
    Calls Try.prog 49 #[.agg #[.int .i64 N, .slice A n c], .int .i64 s, .int .i64 t, .int .i64 m] w (NumsMade (betL N L s t m) w) := by
  have K1 := Lib.hid H1
  have HN := Lib.hid hn
  clear H1 hn
  cases hh : has2 N L s t with
  | false =>
    have HH := Lib.hid hh
    clear hh
    go_enter Try.func49, Try.ntmps49
    go_wp2_with fail
    refine (hasNodes_2 N s t A n c L HN.out (w.heap.size + 1) 2 _ (by omega) (K1.out.bl (by repeat' (first | exact Bl.refl _ | with_reducible assumption | with_reducible refine Bl.drew_ ?_ | with_reducible refine Bl.drewN_ ?_ _ | with_reducible refine Bl.alloc_ ?_ _ | with_reducible refine Bl.trans_ ?_ (by assumption) | with_reducible refine Bl.trans_ ?_ (And.left (by assumption))))) (by simp) (by simp [go_sem]) (by simp [go_sem])).mono ?_
    rintro e w1 ⟨rfl, hb1⟩
    rw [HH.out]
    go_wp2
    go_ret
    exact ⟨_, rfl, by unfold betL; rw [HH.out]; exact OwnN.nil_ _ _, (by repeat' (first | exact Bl.refl _ | with_reducible assumption | with_reducible refine Bl.drew_ ?_ | with_reducible refine Bl.drewN_ ?_ _ | with_reducible refine Bl.alloc_ ?_ _ | with_reducible refine Bl.trans_ ?_ (by assumption) | with_reducible refine Bl.trans_ ?_ (And.left (by assumption))))⟩
  | true =>
    have HH := Lib.hid hh
    obtain ⟨ho, hs, ht⟩ := has2_of hh
    have hN1 := (okB_elim ho).1
    have HO := Lib.hid ho
    obtain ⟨k, rfl⟩ : ∃ k : Nat, N = k := ⟨N.toNat, by omega⟩
    clear hh ho
    by_cases h0 : m < 0
    · have b0 : decide (m < 0) = true := by simpa using h0
      go_enter Try.func49, Try.ntmps49
      go_wp2_with fail
      refine (hasNodes_2 k s t A n c L HN.out (w.heap.size + 1) 2 _ (by omega) (K1.out.bl (by repeat' (first | exact Bl.refl _ | with_reducible assumption | with_reducible refine Bl.drew_ ?_ | with_reducible refine Bl.drewN_ ?_ _ | with_reducible refine Bl.alloc_ ?_ _ | with_reducible refine Bl.trans_ ?_ (by assumption) | with_reducible refine Bl.trans_ ?_ (And.left (by assumption))))) (by simp) (by simp [go_sem]) (by simp [go_sem])).mono ?_
      rintro e w1 ⟨rfl, hb1⟩
      rw [HH.out]
      go_wp2
      go_ret
      exact ⟨_, rfl, by unfold betL; rw [if_neg (by simp; omega)]; exact OwnN.nil_ _ _, (by repeat' (first | exact Bl.refl _ | with_reducible assumption | with_reducible refine Bl.drew_ ?_ | with_reducible refine Bl.drewN_ ?_ _ | with_reducible refine Bl.alloc_ ?_ _ | with_reducible refine Bl.trans_ ?_ (by assumption) | with_reducible refine Bl.trans_ ?_ (And.left (by assumption))))⟩
    · have b0 : decide (m < 0) = false := by simpa using h0
      by_cases h1 : 24000 < m
      · have b1 : decide (24000 < m) = true := by simpa using h1
        go_enter Try.func49, Try.ntmps49
        go_wp2_with fail
        refine (hasNodes_2 k s t A n c L HN.out (w.heap.size + 1) 2 _ (by omega) (K1.out.bl (by repeat' (first | exact Bl.refl _ | with_reducible assumption | with_reducible refine Bl.drew_ ?_ | with_reducible refine Bl.drewN_ ?_ _ | with_reducible refine Bl.alloc_ ?_ _ | with_reducible refine Bl.trans_ ?_ (by assumption) | with_reducible refine Bl.trans_ ?_ (And.left (by assumption))))) (by simp) (by simp [go_sem]) (by simp [go_sem])).mono ?_
        rintro e w1 ⟨rfl, hb1⟩
        rw [HH.out]
        go_wp2
        go_ret
        exact ⟨_, rfl, by unfold betL; rw [if_neg (by simp; omega)]; exact OwnN.nil_ _ _, (by repeat' (first | exact Bl.refl _ | with_reducible assumption | with_reducible refine Bl.drew_ ?_ | with_reducible refine Bl.drewN_ ?_ _ | with_reducible refine Bl.alloc_ ?_ _ | with_reducible refine Bl.trans_ ?_ (by assumption) | with_reducible refine Bl.trans_ ?_ (And.left (by assumption))))⟩
      · have b1 : decide (24000 < m) = false := by simpa using h1
        have HB := Lib.hid (show betL k L s t m = withinL k L s t m from by unfold betL; rw [if_pos (by rw [HH.out, Bool.true_and, decide_eq_true_eq]; omega)])
        go_enter Try.func49, Try.ntmps49
        go_wp2_with fail
        refine (hasNodes_2 k s t A n c L HN.out (w.heap.size + 1) 2 _ (by omega) (K1.out.bl (by repeat' (first | exact Bl.refl _ | with_reducible assumption | with_reducible refine Bl.drew_ ?_ | with_reducible refine Bl.drewN_ ?_ _ | with_reducible refine Bl.alloc_ ?_ _ | with_reducible refine Bl.trans_ ?_ (by assumption) | with_reducible refine Bl.trans_ ?_ (And.left (by assumption))))) (by simp) (by simp [go_sem]) (by simp [go_sem])).mono ?_
        rintro e w1 ⟨rfl, hb1⟩
        rw [HH.out]
        have hx := (bcell hb1).1
        have q0 : w1.cell? ⟨w.heap.size, 0, none⟩ = some (.int .i64 k) := (hx _ _ (by simp; omega)).trans (by simp [go_sem])
        have q1 : w1.cell? ⟨w.heap.size, 1, none⟩ = some (.slice A n c) := (hx _ _ (by simp; omega)).trans (by simp [go_sem])
        have hbw : Bl w w1 := (((Bl.refl w).alloc_ _).alloc_ _).trans_ hb1
        clear hx hb1
        go_wp2_with fail
        refine (within_any k s t m A n c L HN.out hc HO.out hs ht _ hm (K1.out.bl hbw)).mono ?_
        rintro e w2 ⟨v, rfl, hv, hb2⟩
        go_wp2
        go_ret
        exact ⟨v, rfl, by rw [HB.out]; exact hv.low hbw.size, hbw.trans_ hb2⟩

set_option maxRecDepth 100000 in
set_option maxHeartbeats 2000000 in
theorem implOnShortest_any (N s t : Int) (A : Option Addr) (n c : Nat) (L : List Arc3) (hn : n = L.length) (hc : n ≤ c) (w : World) (hm : n ≤ 1048576) (H1 : ArcsAt w w.heap.size A L) :
    Calls Try.prog 34 #[.agg #[.int .i64 N, .slice A n c], .int .i64 s, .int .i64 t] w (NumsMade (onL N L s t) w) := by
  have K1 := Lib.hid H1
  have HN := Lib.hid hn
  clear H1 hn
  cases hh : has2 N L s t with
  | false =>
    have HH := Lib.hid hh
    clear hh
    go_enter Try.func34, Try.ntmps34
    go_wp2_with fail
    refine (hasNodes_2 N s t A n c L HN.out (w.heap.size + 1) 2 _ (by omega) (K1.out.bl (by repeat' (first | exact Bl.refl _ | with_reducible assumption | with_reducible refine Bl.drew_ ?_ | with_reducible refine Bl.drewN_ ?_ _ | with_reducible refine Bl.alloc_ ?_ _ | with_reducible refine Bl.trans_ ?_ (by assumption) | with_reducible refine Bl.trans_ ?_ (And.left (by assumption))))) (by simp) (by simp [go_sem]) (by simp [go_sem])).mono ?_
    rintro e w1 ⟨rfl, hb1⟩
    rw [HH.out]
    go_wp2
    go_ret
    exact ⟨_, rfl, by unfold onL; rw [HH.out]; exact OwnN.nil_ _ _, (by repeat' (first | exact Bl.refl _ | with_reducible assumption | with_reducible refine Bl.drew_ ?_ | with_reducible refine Bl.drewN_ ?_ _ | with_reducible refine Bl.alloc_ ?_ _ | with_reducible refine Bl.trans_ ?_ (by assumption) | with_reducible refine Bl.trans_ ?_ (And.left (by assumption))))⟩
  | true =>
    have HH := Lib.hid hh
    obtain ⟨ho, hs, ht⟩ := has2_of hh
    have hN1 := (okB_elim ho).1
    have hN24 := (okB_elim ho).2.1
    have HO := Lib.hid ho
    obtain ⟨k, rfl⟩ : ∃ k : Nat, N = k := ⟨N.toNat, by omega⟩
    obtain ⟨u, rfl⟩ : ∃ u : Nat, t = u := ⟨t.toNat, by omega⟩
    clear hh ho
    have HB := Lib.hid (show onL k L s u = withinL k L s u (dAt (distL k L s) u) from by unfold onL; rw [if_pos HH.out])
    have HIX := Lib.hid (show ∀ E : List Int, E.length = 24 → E.take (k : Int).toNat = distL k L s → dAt E (u : Int) = dAt (distL k L s) u from fun E _ hEd => by
      rw [← hEd]
      unfold dAt
      simp only [List.getD_eq_getElem?_getD]
      rw [List.getElem?_take, if_pos (by omega)])
    go_enter Try.func34, Try.ntmps34
    go_wp2_with fail
    refine (hasNodes_2 k s u A n c L HN.out (w.heap.size + 1) 2 _ (by omega) (K1.out.bl (by repeat' (first | exact Bl.refl _ | with_reducible assumption | with_reducible refine Bl.drew_ ?_ | with_reducible refine Bl.drewN_ ?_ _ | with_reducible refine Bl.alloc_ ?_ _ | with_reducible refine Bl.trans_ ?_ (by assumption) | with_reducible refine Bl.trans_ ?_ (And.left (by assumption))))) (by simp) (by simp [go_sem]) (by simp [go_sem])).mono ?_
    rintro e w1 ⟨rfl, hb1⟩
    rw [HH.out]
    have HSH := Lib.hid (show ∀ wx, Bl w1 wx → wx.cell? ⟨w.heap.size, 0, none⟩ = some (.int .i64 k) ∧ wx.cell? ⟨w.heap.size, 1, none⟩ = some (.slice A n c) from fun wx hb => by
      have hx := (bcell (hb1.trans_ hb)).1
      exact ⟨(hx _ _ (by simp; omega)).trans (by simp [go_sem]), (hx _ _ (by simp; omega)).trans (by simp [go_sem])⟩)
    have HBW := Lib.hid (show Bl w w1 from (((Bl.refl w).alloc_ _).alloc_ _).trans_ hb1)
    clear hb1
    generalize dAt (distL k L s) u = dt at *
    go_wp2_with fail
    refine wp_region_held_drew (S := fun wx => wx.cell? ⟨w.heap.size, 0, none⟩ = some (.int .i64 k) ∧ wx.cell? ⟨w.heap.size, 1, none⟩ = some (.slice A n c)) (by kernel_rfl) ?_ (fun hHeld => ?_)
    · (exact HSH.out _ (by repeat' (first | exact Bl.refl _ | with_reducible assumption | with_reducible refine Bl.drew_ ?_ | with_reducible refine Bl.drewN_ ?_ _ | with_reducible refine Bl.alloc_ ?_ _ | with_reducible refine Bl.trans_ ?_ (by assumption) | with_reducible refine Bl.trans_ ?_ (And.left (by assumption)))))
    refine wpAnyH_take (i := 0) (v := ?_) rfl (by kernel_rfl) (by kernel_rfl) (by kernel_rfl) (fun _ _ _ h => h) (Or.inl ⟨by kernel_rfl, ?_⟩) (by assumption) ?_
    rotate_left
    · (intro wx hSw; (try dsimp only at hSw); go_simp; try (with_reducible rfl))
    try simp only [Act.put, List.getElem_toArray, List.getElem_cons_succ, List.getElem_cons_zero, List.setIfInBounds_toArray, List.set_cons_zero, List.set_cons_succ]
    refine wpAnyH_take (i := 1) (v := ?_) rfl (by kernel_rfl) (by kernel_rfl) (by kernel_rfl) (fun _ _ _ h => h) (Or.inl ⟨by kernel_rfl, ?_⟩) (by assumption) ?_
    rotate_left
    · (intro wx hSw; (try dsimp only at hSw); go_simp; try (with_reducible rfl))
    try simp only [Act.put, List.getElem_toArray, List.getElem_cons_succ, List.getElem_cons_zero, List.setIfInBounds_toArray, List.set_cons_zero, List.set_cons_succ]
    refine wpAnyH_take (i := 2) (v := ?_) rfl (by kernel_rfl) (by kernel_rfl) (by kernel_rfl) (fun _ _ _ h => h) (Or.inl ⟨by kernel_rfl, ?_⟩) (by assumption) ?_
    rotate_left
    · (intro wx hSw; (try dsimp only at hSw); go_simp; try (with_reducible rfl))
    try simp only [Act.put, List.getElem_toArray, List.getElem_cons_succ, List.getElem_cons_zero, List.setIfInBounds_toArray, List.set_cons_zero, List.set_cons_succ]
    refine wpAnyH_take (i := 3) (v := ?_) rfl (by kernel_rfl) (by kernel_rfl) (by kernel_rfl) (fun _ _ _ h => h) (Or.inl ⟨by kernel_rfl, ?_⟩) (by assumption) ?_
    rotate_left
    · (intro wx hSw; (try dsimp only at hSw); go_simp; try (with_reducible rfl))
    try simp only [Act.put, List.getElem_toArray, List.getElem_cons_succ, List.getElem_cons_zero, List.setIfInBounds_toArray, List.set_cons_zero, List.set_cons_succ]
    refine wpAnyH_take (i := 4) (v := ?_) rfl (by kernel_rfl) (by kernel_rfl) (by kernel_rfl) (fun _ _ _ h => h) (Or.inl ⟨by kernel_rfl, ?_⟩) (by assumption) ?_
    rotate_left
    · (intro wx hSw; (try dsimp only at hSw); go_simp; try (with_reducible rfl))
    try simp only [Act.put, List.getElem_toArray, List.getElem_cons_succ, List.getElem_cons_zero, List.setIfInBounds_toArray, List.set_cons_zero, List.set_cons_succ]
    refine wpAnyH_take (i := 6) (v := ?_) rfl (by kernel_rfl) (by kernel_rfl) (by kernel_rfl) (fun _ _ _ h => h) (Or.inl ⟨by kernel_rfl, ?_⟩) (by assumption) ?_
    rotate_left
    · (intro wx hSw; (try dsimp only at hSw); go_simp; try (with_reducible rfl))
    try simp only [Act.put, List.getElem_toArray, List.getElem_cons_succ, List.getElem_cons_zero, List.setIfInBounds_toArray, List.set_cons_zero, List.set_cons_succ]
    refine wpAnyH_ready (rs := [5]) (by kernel_rfl) (by simp) ?_
    refine AllReadyH.cons rfl (fun K hK => ?_) AllReadyH.nil
    go_simp
    (go_at_call 73; refine (distances_any k s A n c L HN.out hc HO.out hs.1 hs.2 _ (K1.out.bl (HBW.out.trans_ (by repeat' (first | exact Bl.refl _ | with_reducible assumption | with_reducible refine Bl.drew_ ?_ | with_reducible refine Bl.drewN_ ?_ _ | with_reducible refine Bl.alloc_ ?_ _ | with_reducible refine Bl.trans_ ?_ (by assumption) | with_reducible refine Bl.trans_ ?_ (And.left (by assumption))))))).mono ?_; rintro e w2 ⟨E, rfl, hE, hEd, hb2⟩; have hix := fun wx => (by have h := index24 E hE u (by omega) wx; rw [HIX.out E hE hEd] at h; exact h))
    try (go_wp2_with fail)
    refine hK.out _ _ ?_ (fun hHeld => ?_)
    · (exact HSH.out _ (by repeat' (first | exact Bl.refl _ | with_reducible assumption | with_reducible refine Bl.drew_ ?_ | with_reducible refine Bl.drewN_ ?_ _ | with_reducible refine Bl.alloc_ ?_ _ | with_reducible refine Bl.trans_ ?_ (by assumption) | with_reducible refine Bl.trans_ ?_ (And.left (by assumption)))))
    clear hK K
    try simp only [Act.put, List.getElem_toArray, List.getElem_cons_succ, List.getElem_cons_zero, List.setIfInBounds_toArray, List.set_cons_zero, List.set_cons_succ]
    refine wpAnyH_take (i := 7) (v := ?_) rfl (by kernel_rfl) (by kernel_rfl) (by kernel_rfl) (fun _ _ _ h => h) (Or.inl ⟨by kernel_rfl, ?_⟩) (by assumption) ?_
    rotate_left
    · (intro wx hSw; (try dsimp only at hSw); go_simp; try (with_reducible rfl))
    try simp only [Act.put, List.getElem_toArray, List.getElem_cons_succ, List.getElem_cons_zero, List.setIfInBounds_toArray, List.set_cons_zero, List.set_cons_succ]
    refine wpAnyH_ready (rs := [8]) (by kernel_rfl) (by simp) ?_
    refine AllReadyH.cons rfl (fun K hK => ?_) AllReadyH.nil
    go_simp
    (go_at_call 76; refine (within_any k s u dt A n c L HN.out hc HO.out hs ht _ hm (K1.out.bl (HBW.out.trans_ (by repeat' (first | exact Bl.refl _ | with_reducible assumption | with_reducible refine Bl.drew_ ?_ | with_reducible refine Bl.drewN_ ?_ _ | with_reducible refine Bl.alloc_ ?_ _ | with_reducible refine Bl.trans_ ?_ (by assumption) | with_reducible refine Bl.trans_ ?_ (And.left (by assumption))))))).mono ?_; rintro e w3 ⟨v, rfl, hv, hb3⟩)
    try (go_wp2_with fail)
    refine hK.out _ _ ?_ (fun hHeld => ?_)
    · (exact HSH.out _ (by repeat' (first | exact Bl.refl _ | with_reducible assumption | with_reducible refine Bl.drew_ ?_ | with_reducible refine Bl.drewN_ ?_ _ | with_reducible refine Bl.alloc_ ?_ _ | with_reducible refine Bl.trans_ ?_ (by assumption) | with_reducible refine Bl.trans_ ?_ (And.left (by assumption)))))
    clear hK K
    try simp only [Act.put, List.getElem_toArray, List.getElem_cons_succ, List.getElem_cons_zero, List.setIfInBounds_toArray, List.set_cons_zero, List.set_cons_succ]
    refine wpAnyH_take (i := 9) (v := ?_) rfl (by kernel_rfl) (by kernel_rfl) (by kernel_rfl) (fun _ _ _ h => h) (Or.inl ⟨by kernel_rfl, ?_⟩) (by assumption) ?_
    rotate_left
    · (intro wx hSw; (try dsimp only at hSw); go_simp; try (with_reducible rfl))
    try simp only [Act.put, List.getElem_toArray, List.getElem_cons_succ, List.getElem_cons_zero, List.setIfInBounds_toArray, List.set_cons_zero, List.set_cons_succ]
    refine wpAnyH_done (by kernel_rfl) ?_ _
    go_wp2
    go_ret
    exact ⟨v, rfl, by rw [HB.out]; exact hv.low (HBW.out.trans_ (by repeat' (first | exact Bl.refl _ | with_reducible assumption | with_reducible refine Bl.drew_ ?_ | with_reducible refine Bl.drewN_ ?_ _ | with_reducible refine Bl.alloc_ ?_ _ | with_reducible refine Bl.trans_ ?_ (by assumption) | with_reducible refine Bl.trans_ ?_ (And.left (by assumption))))).size, HBW.out.trans_ (by repeat' (first | exact Bl.refl _ | with_reducible assumption | with_reducible refine Bl.drew_ ?_ | with_reducible refine Bl.drewN_ ?_ _ | with_reducible refine Bl.alloc_ ?_ _ | with_reducible refine Bl.trans_ ?_ (by assumption) | with_reducible refine Bl.trans_ ?_ (And.left (by assumption))))⟩

end Go.Proofs.Ytdbjcojlcddhdaa

set_option linter.unusedSimpArgs false
set_option linter.unusedVariables false
namespace Go.Proofs.Ytdbjcojlcddhdaa
open Go.RowKit

theorem wtL_mem {L : List Arc3} (hs : L.Pairwise AheadP) : ∀ {a : Arc3}, a ∈ L → wtL a.1 a.2.1 L = a.2.2 := by
  induction L with
  | nil => intro a ha; cases ha
  | cons b L ih =>
    intro a ha
    rw [List.pairwise_cons] at hs
    unfold wtL
    rcases List.mem_cons.1 ha with rfl | h
    · rw [if_pos (isEnds_iff.2 ⟨rfl, rfl⟩)]
    · rw [if_neg (fun he => ahead_ne (hs.1 a h) (isEnds_iff.1 he))]
      exact ih hs.2 h
theorem wtL_pos {u v : Int} : ∀ {L : List Arc3}, 0 < wtL u v L → (u, v, wtL u v L) ∈ L
  | [], h => by simp [wtL] at h
  | a :: l, h => by
    unfold wtL at h ⊢
    split
    · rename_i he
      obtain ⟨rfl, rfl⟩ := isEnds_iff.1 he
      exact List.mem_cons_self
    · rename_i he
      rw [if_neg he] at h
      exact List.mem_cons_of_mem _ (wtL_pos h)

/-- The least way over an arc from one of the first k nodes. -/
def leastSt (D : List Int) (L : List Arc3) (s v : Int) : Nat → Int
  | 0 => if v = s then 0 else -1
  | k + 1 => if 0 < wtL k v L ∧ 0 ≤ dAt D k ∧ (leastSt D L s v k < 0 ∨ dAt D k + wtL k v L < leastSt D L s v k) then dAt D k + wtL k v L else leastSt D L s v k
theorem leastSt_inv {N : Int} {L : List Arc3} {s v : Int} {D : List Int} (hD : IsDist N L s D) : ∀ k : Nat,
    -1 ≤ leastSt D L s v k ∧ (0 ≤ leastSt D L s v k → 0 ≤ dAt D v ∧ dAt D v ≤ leastSt D L s v k) ∧ (v = s → 0 ≤ leastSt D L s v k ∧ leastSt D L s v k ≤ 0) ∧
      ∀ u : Nat, u < k → 0 < wtL u v L → 0 ≤ dAt D u → 0 ≤ leastSt D L s v k ∧ leastSt D L s v k ≤ dAt D u + wtL u v L
  | 0 => by
    have hst := hD.start
    unfold leastSt
    split
    · rename_i e
      rw [e]
      exact ⟨by omega, fun _ => by omega, fun _ => by omega, fun u h => absurd h (by omega)⟩
    · rename_i e
      exact ⟨by omega, fun h => by omega, fun h => absurd h e, fun u h => absurd h (by omega)⟩
  | k + 1 => by
    obtain ⟨h1, h2, h3, h4⟩ := leastSt_inv (v := v) hD k
    have hst := hD.start
    unfold leastSt
    split
    · rename_i hc
      obtain ⟨c1, c2, c3⟩ := hc
      have ha := hD.arc _ (wtL_pos c1) (by simpa using c2)
      simp only at ha
      refine ⟨by omega, fun _ => ha, fun e => ?_, fun u hu p q => ?_⟩
      · have := h3 e
        rw [e] at ha
        omega
      · rcases Nat.lt_or_ge u k with h | h
        · have := h4 u h p q
          omega
        · obtain rfl : u = k := by omega
          omega
    · rename_i hc
      refine ⟨h1, h2, h3, fun u hu p q => ?_⟩
      rcases Nat.lt_or_ge u k with h | h
      · exact h4 u h p q
      · obtain rfl : u = k := by omega
        omega
theorem leastSt_all {N : Int} {L : List Arc3} {s v : Int} {D : List Int} (ho : okB N L = true) (hD : IsDist N L s D) (h0 : 0 ≤ v) (h1 : v < N) : leastSt D L s v N.toNat = dAt D v := by
  obtain ⟨a, b, c, d⟩ := leastSt_inv (v := v) hD N.toNat
  have hl := hD.low v
  by_cases hp : 0 ≤ dAt D v
  · rcases hD.back v h0 h1 hp with e | ⟨x, hx, e1, e2, e3⟩
    · subst e
      have h := c rfl
      have := b h.1
      have hst := hD.start
      omega
    · obtain ⟨a0, a1, a2, a3, a4, a5⟩ := arcsIn_of_ok ho x hx
      have hw := wtL_mem (okB_elim ho).2.2.2.2 hx
      rw [e1] at hw
      obtain ⟨u, hu⟩ : ∃ u : Nat, x.1 = u := ⟨x.1.toNat, by omega⟩
      rw [hu] at hw e2 e3
      have h := d u (by omega) (by omega) e2
      have := b h.1
      omega
  · have : ¬ 0 ≤ leastSt D L s v N.toNat := fun h => hp (b h).1
    omega

theorem triangle {N s t v : Int} {L : List Arc3} (h : has2 N L s t = true) (h0 : 0 ≤ v) (h1 : v < N) (ha : 0 ≤ distOfI N L s v) (hb : 0 ≤ distOfI N L v t) : 0 ≤ distOfI N L s t ∧ distOfI N L s t ≤ distOfI N L s v + distOfI N L v t := by
  obtain ⟨ho, hs, ht⟩ := has2_of h
  have e1 : distOfI N L s v = dAt (distL N L s) v := by
    unfold distOfI
    rw [if_pos (by unfold has2; rw [ho, Bool.true_and, decide_eq_true_eq]; omega)]
  have e2 : distOfI N L v t = dAt (distL N L v) t := by
    unfold distOfI
    rw [if_pos (by unfold has2; rw [ho, Bool.true_and, decide_eq_true_eq]; omega)]
  have e3 : distOfI N L s t = dAt (distL N L s) t := by unfold distOfI; rw [if_pos h]
  rw [e1] at ha ⊢
  rw [e2] at hb ⊢
  rw [e3]
  have e4 := distL_of_turned ho ⟨h0, h1⟩ ht
  rw [← e4] at hb ⊢
  have hD := distL_is (s := s) (arcsIn_of_ok ho) (okB_elim ho).2.1 hs.1 hs.2
  have hE := distL_is (s := t) (arcsIn_of_ok (revL_ok ho)) (okB_elim ho).2.1 ht.1 ht.2
  exact hD.tri ho hE _ v h0 h1 rfl hb ha
theorem distOfI_bounds {N s t : Int} {L : List Arc3} : -1 ≤ distOfI N L s t ∧ distOfI N L s t ≤ 23000 := by
  unfold distOfI
  split
  · rename_i h
    obtain ⟨ho, hs, ht⟩ := has2_of h
    exact distL_top ho hs.1 hs.2 t
  · omega

/-- The arcs of the first k nodes, one behind the other. -/
def catL (L : List Arc3) (k : Nat) : List Arc3 := L.filter fun a => decide (a.1 < (k : Int))
theorem catL_zero {L : List Arc3} (h : ∀ a ∈ L, 0 ≤ a.1) : catL L 0 = [] := by
  unfold catL
  rw [List.filter_eq_nil_iff]
  intro a ha
  have := h a ha
  simp
  omega
theorem catL_succ {L : List Arc3} (hs : L.Pairwise AheadP) (k : Nat) : catL L (k + 1) = catL L k ++ fromL k L := by
  induction L with
  | nil => rfl
  | cons a L ih =>
    rw [List.pairwise_cons] at hs
    have ih' := ih hs.2
    unfold catL fromL at ih' ⊢
    simp only [List.filter_cons]
    by_cases h1 : a.1 < (k : Int)
    · rw [if_pos (by simp; omega), if_pos (by simpa using h1), if_neg (by simp; omega), ih']
      rfl
    · by_cases h2 : a.1 = (k : Int)
      · have h3 : L.filter (fun a => decide (a.1 < (k : Int))) = [] := by
          rw [List.filter_eq_nil_iff]
          intro b hb hlt
          have := hs.1 b hb
          unfold AheadP at this
          simp only [aheadB, decide_eq_true_eq] at this hlt
          omega
        rw [h3, List.nil_append] at ih'
        rw [if_pos (by simp; omega), if_neg (by simpa using h1), if_pos (by simpa using h2), ih', h3]
        rfl
      · have h3 : L.filter (fun a => decide (a.1 < ((k + 1 : Nat) : Int))) = [] := by
          rw [List.filter_eq_nil_iff]
          intro b hb hlt
          have := hs.1 b hb
          unfold AheadP at this
          simp only [aheadB, decide_eq_true_eq] at this hlt
          omega
        rw [h3] at ih'
        rw [if_neg (by simp; omega), if_neg (by simpa using h1), if_neg (by simpa using h2), h3]
        exact ih'
theorem catL_all {N : Int} {L : List Arc3} (h : okB N L = true) : catL L N.toNat = L := by
  unfold catL
  rw [List.filter_eq_self]
  intro a ha
  have := arcsIn_of_ok h a ha
  simp
  omega
theorem catL_len (L : List Arc3) (k : Nat) : (catL L k).length ≤ L.length := List.length_filter_le _ _
theorem fromL_at {v : Int} {L : List Arc3} {k : Nat} (hs : L.Pairwise AheadP) (h : k < (fromL v L).length) : (fromL v L)[k].1 = v ∧ wtL v (fromL v L)[k].2.1 L = (fromL v L)[k].2.2 := by
  have hm : (fromL v L)[k] ∈ fromL v L := List.getElem_mem h
  generalize (fromL v L)[k] = a at hm
  unfold fromL at hm
  obtain ⟨h1, h2⟩ := List.mem_filter.1 hm
  have e : a.1 = v := by simpa using h2
  refine ⟨e, ?_⟩
  have := wtL_mem hs h1
  rwa [e] at this

/-- How many arcs come to a node. -/
def intoN (L : List Arc3) (v : Int) (k : Nat) : Nat := ((L.take k).filter fun a => a.2.1 == v).length
theorem intoN_all {L : List Arc3} (hs : L.Pairwise AheadP) (v : Int) : (fromL v (revL L)).length = intoN L v L.length := by
  unfold fromL intoN
  rw [List.take_length]
  have h := ((revL_sorted hs).2.filter fun a => a.1 == v).length_eq
  rw [h, List.filter_map, List.length_map]
  rfl

end Go.Proofs.Ytdbjcojlcddhdaa

set_option linter.unusedSimpArgs false
set_option linter.unusedVariables false
namespace Go.Proofs.Ytdbjcojlcddhdaa
open Go.RowKit

/-- Arcs between nodes of n. -/
structure ArcN (N : Int) where
  a : Arc3
  h : 0 ≤ a.2.1 ∧ a.2.1 < N ∧ 1 ≤ a.2.2 ∧ a.2.2 ≤ 1000
def arcsN {N : Int} (M : List Arc3) (h : ∀ a ∈ M, 0 ≤ a.2.1 ∧ a.2.1 < N ∧ 1 ≤ a.2.2 ∧ a.2.2 ≤ 1000) : List (ArcN N) := M.pmap (fun a ha => ⟨a, ha⟩) h
theorem arcsN_len {N : Int} {M : List Arc3} (h : ∀ a ∈ M, 0 ≤ a.2.1 ∧ a.2.1 < N ∧ 1 ≤ a.2.2 ∧ a.2.2 ≤ 1000) : (arcsN M h).length = M.length := by unfold arcsN; rw [List.length_pmap]
theorem arcsN_at {N : Int} [Inhabited (ArcN N)] {M : List Arc3} (h : ∀ a ∈ M, 0 ≤ a.2.1 ∧ a.2.1 < N ∧ 1 ≤ a.2.2 ∧ a.2.2 ≤ 1000) {j : Nat} (hj : j < M.length) : ((arcsN M h)[j]!).1 = M[j] := by
  rw [getElem!_pos (arcsN M h) j (by rw [arcsN_len]; exact hj)]
  unfold arcsN
  rw [List.getElem_pmap]
/-- Where the first arc is that a search finds. -/
theorem first_at {M : List Arc3} {q : Arc3 → Bool} {a : Arc3} (h : M.find? q = some a) : ∃ k, ∃ (hk : k < M.length), M[k] = a ∧ q M[k] = true ∧ ∀ j (hj : j < k), q (M[j]'(by omega)) = false := by
  obtain ⟨h1, k, hk, e, h2⟩ := List.find?_eq_some_iff_getElem.1 h
  exact ⟨k, hk, e, by rw [e]; exact h1, fun j hj => by simpa using h2 j hj⟩
theorem idx_first {N : Int} [Inhabited (ArcN N)] {M : List Arc3} (h : ∀ a ∈ M, 0 ≤ a.2.1 ∧ a.2.1 < N ∧ 1 ≤ a.2.2 ∧ a.2.2 ≤ 1000) (q : Arc3 → Bool) {k : Nat} (hk : k < M.length) (hq : q M[k] = true) (hno : ∀ j (hj : j < k), q (M[j]'(by omega)) = false) :
    Lib.idxBy (fun _ (y : ArcN N) => q y.1) ((arcsN M h).take M.length) default = (k : Int) := by
  refine Lib.idxBy_hit _ _ M.length k default hk (by rw [arcsN_len]; exact Nat.le_refl _) ?_ (fun j hj => ?_)
  · show q ((arcsN M h)[k]!).1 = true
    rw [arcsN_at h hk]; exact hq
  · show q ((arcsN M h)[j]!).1 = false
    rw [arcsN_at h (by omega)]; exact hno j hj

/-- Where all of the first places are as far, the next arc is the same. -/
theorem nextB_take {E : List Int} {n : Nat} {v : Int} {a : Arc3} (h : n ≤ E.length) (hv : 0 ≤ v ∧ v < n) (ha : 0 ≤ a.2.1 ∧ a.2.1 < n) : nextB (E.take n) v a = nextB E v a := by
  have e : ∀ x : Int, 0 ≤ x → x < n → dAt (E.take n) x = dAt E x := fun x h0 h1 => by
    unfold dAt
    simp only [List.getD_eq_getElem?_getD]
    rw [List.getElem?_take, if_pos (by omega)]
  unfold nextB
  rw [e _ ha.1 ha.2, e _ hv.1 hv.2]

/-- k steps along a path, the node behind them being v, and what is still to come. -/
structure OnWay (L : List Arc3) (D : List Int) (s t : Int) (P : List Int) (v : Int) : Prop where
  all : P ++ stepsL L D t v = s :: stepsL L D t s
  last : ∃ Q, P = Q ++ [v]
  far : 0 ≤ dAt D v
theorem OnWay.start {L : List Arc3} {D : List Int} {s t : Int} (h : 0 ≤ dAt D s) : OnWay L D s t [s] s := ⟨rfl, ⟨[], rfl⟩, h⟩
theorem OnWay.next {L : List Arc3} {D : List Int} {s t v : Int} {P : List Int} (h : OnWay L D s t P v) (hv : v ≠ t) {a : Arc3} (hn : nextL L D v = some a) (h0 : 0 ≤ dAt D a.2.1) (hl : dAt D a.2.1 < dAt D v) : OnWay L D s t (P ++ [a.2.1]) a.2.1 := by
  refine ⟨?_, ⟨P, rfl⟩, h0⟩
  rw [← h.all, stepsL_next hv hn h0 hl, List.append_assoc]
  rfl
theorem OnWay.done {L : List Arc3} {D : List Int} {s t : Int} {P : List Int} (h : OnWay L D s t P t) : P = s :: stepsL L D t s := by
  have := h.all
  rwa [stepsL_end, List.append_nil] at this
theorem OnWay.len {L : List Arc3} {D : List Int} {s t v : Int} {P : List Int} (h : OnWay L D s t P v) (hd : dAt D s ≤ 23000) : P.length ≤ 23001 := by
  have h1 := congrArg List.length h.all
  have h2 := stepsL_len L D t _ s rfl
  simp only [List.length_append, List.length_cons] at h1
  omega

end Go.Proofs.Ytdbjcojlcddhdaa

set_option linter.unusedSimpArgs false
set_option linter.unusedVariables false
namespace Go.Proofs.Ytdbjcojlcddhdaa
open Go.RowKit

/-- The path from v down to t, by the next arcs. -/
inductive Way (N : Int) (L : List Arc3) (D : List Int) (t : Int) : Int → List Int → Prop
  | stop : Way N L D t t [t]
  | go {v : Int} {a : Arc3} {P : List Int} (hv : v ≠ t) (hr : 0 ≤ v ∧ v < N) (hn : nextL L D v = some a) (hL : a ∈ L) (h1 : a.1 = v) (h0 : 0 ≤ dAt D a.2.1) (hd : a.2.2 + dAt D a.2.1 = dAt D v) (hl : dAt D a.2.1 < dAt D v) (h : Way N L D t a.2.1 P) : Way N L D t v (v :: P)
theorem way_steps {N t : Int} {L : List Arc3} {D : List Int} (ho : okB N L = true) (h : IsDist N (revL L) t D) : ∀ (n : Nat) (v : Int), (dAt D v).toNat = n → 0 ≤ v → v < N → 0 ≤ dAt D v → Way N L D t v (v :: stepsL L D t v) := by
  intro n
  induction n using Nat.strongRecOn with
  | ind n ih =>
    intro v hn h0 h1 hd
    by_cases hv : v = t
    · subst hv
      rw [stepsL_end]
      exact .stop
    · obtain ⟨a, e, hL, ha, hp, hs, r0, r1, hl⟩ := nextL_some ho h h0 h1 hv hd
      rw [stepsL_next hv e hp hl]
      exact .go hv ⟨h0, h1⟩ e hL ha hp hs hl (ih _ (by omega) _ rfl r0 r1 hp)
theorem way_path {N s t : Int} {L : List Arc3} (hh : has2 N L s t = true) (hd : 0 ≤ dAt (distL N (revL L) t) s) : Way N L (distL N (revL L) t) t s (pathL N L s t) := by
  obtain ⟨ho, hs, ht⟩ := has2_of hh
  unfold pathL
  rw [if_pos (by rw [Bool.and_eq_true]; exact ⟨hh, by simpa using hd⟩)]
  exact way_steps ho (distL_is (arcsIn_of_ok (revL_ok ho)) (okB_elim ho).2.1 ht.1 ht.2) _ s rfl hs.1 hs.2 hd
section
variable {N t v : Int} {L : List Arc3} {D P : List Int}
theorem Way.pos (h : Way N L D t v P) : 0 < P.length := by cases h <;> simp
theorem Way.head (h : Way N L D t v P) (hp : 0 < P.length) : P[0] = v := by cases h <;> rfl
theorem Way.last (h : Way N L D t v P) : ∀ (hp : P.length - 1 < P.length), P[P.length - 1] = t := by
  induction h with
  | stop => intro _; rfl
  | go hv hr hn hL h1 h0 hd hl h ih =>
    intro hp
    have := h.pos
    have h2 := ih (by omega)
    simp only [List.length_cons]
    rw [List.getElem_cons]
    rw [dif_neg (by omega)]
    simpa using h2
theorem Way.nodes (h : Way N L D t v P) (ht : 0 ≤ t ∧ t < N) (hz : 0 ≤ dAt D t) : ∀ x ∈ P, (0 ≤ x ∧ x < N) ∧ 0 ≤ dAt D x ∧ dAt D x ≤ dAt D v := by
  induction h with
  | stop => intro x hx; simp at hx; subst hx; exact ⟨ht, hz, Int.le_refl _⟩
  | go hv hr hn hL h1 h0 hd hl h ih =>
    intro x hx
    rcases List.mem_cons.1 hx with rfl | hx
    · exact ⟨hr, by omega, Int.le_refl _⟩
    · obtain ⟨a, b, c⟩ := ih x hx
      exact ⟨a, b, by omega⟩
/-- Each step is the next arc. -/
theorem Way.step (h : Way N L D t v P) : ∀ i (hi : i + 1 < P.length), ∃ a, nextL L D (P[i]'(by omega)) = some a ∧ a ∈ L ∧ a.1 = P[i]'(by omega) ∧ a.2.1 = P[i + 1] ∧ a.2.2 + dAt D P[i + 1] = dAt D (P[i]'(by omega)) ∧ dAt D P[i + 1] < dAt D (P[i]'(by omega)) := by
  induction h with
  | stop => intro i hi; simp at hi
  | go hv hr hn hL h1 h0 hd hl h ih =>
    intro i hi
    rcases i with _ | i
    · have hp := h.pos
      have hh := h.head hp
      simp only [List.getElem_cons_zero, List.getElem_cons_succ]
      rw [hh]
      exact ⟨_, hn, hL, h1, rfl, hd, hl⟩
    · simpa using ih i (by simpa using hi)
/-- How far is left falls along the path. -/
theorem Way.falls (h : Way N L D t v P) : ∀ i j (hij : i < j) (hj : j < P.length), dAt D P[j] < dAt D (P[i]'(by omega)) := by
  intro i j hij
  induction j with
  | zero => omega
  | succ j ih =>
    intro hj
    obtain ⟨a, -, -, -, -, -, e⟩ := h.step j hj
    by_cases hh : i = j
    · subst hh; exact e
    · have := ih (by omega) (by omega)
      omega
theorem Way.nodup (h : Way N L D t v P) : ∀ i j (hij : i < j) (hj : j < P.length), P[i]'(by omega) ≠ P[j] := fun i j hij hj e => by
  have := h.falls i j hij hj
  rw [e] at this
  omega
end

/-- Nodes of the first path are on a shortest one. -/
theorem way_on {N s t : Int} {L : List Arc3} {D E : List Int} (ho : okB N L = true) (hD : IsDist N L s D) (hE : IsDist N (revL L) t E) {v : Int} {P : List Int} (h : Way N L E t v P) (hv : 0 ≤ dAt D v ∧ dAt D v + dAt E v = dAt D t) (hr : 0 ≤ v ∧ v < N) (ht : 0 ≤ t ∧ t < N) (hz : 0 ≤ dAt E t) :
    ∀ x ∈ P, (0 ≤ x ∧ x < N) ∧ 0 ≤ dAt D x ∧ 0 ≤ dAt E x ∧ dAt D x + dAt E x = dAt D t := by
  induction h with
  | stop =>
    intro x hx
    simp at hx
    subst hx
    exact ⟨ht, hv.1, hz, hv.2⟩
  | @go v a P hv' hr' hn hL h1 h0 hd hl h ih =>
    intro x hx
    obtain ⟨a0, a1, a2, a3, a4, a5⟩ := arcsIn_of_ok ho a hL
    rcases List.mem_cons.1 hx with rfl | hx
    · exact ⟨hr, hv.1, by omega, hv.2⟩
    · have hle := hD.arc a hL (by rw [h1]; exact hv.1)
      rw [h1] at hle
      have htri := IsDist.tri ho hD hE _ a.2.1 a2 a3 rfl h0 hle.1
      exact ih ⟨hle.1, by omega⟩ ⟨a2, a3⟩ x hx

/-- Which nodes are between two. -/
theorem distOfI_of {N s t : Int} {L : List Arc3} (ho : okB N L = true) (hs : 0 ≤ s ∧ s < N) (ht : 0 ≤ t ∧ t < N) : distOfI N L s t = dAt (distL N L s) t := by
  unfold distOfI
  rw [if_pos (by unfold has2; rw [ho, Bool.true_and, decide_eq_true_eq]; exact ⟨hs, ht⟩)]
theorem betL_mem {N s t m v : Int} {L : List Arc3} (hh : has2 N L s t = true) (hm : 0 ≤ m ∧ m ≤ 24000) (hv : 0 ≤ v ∧ v < N) :
    v ∈ betL N L s t m ↔ 0 ≤ distOfI N L s v ∧ 0 ≤ distOfI N L v t ∧ distOfI N L s v + distOfI N L v t ≤ m := by
  obtain ⟨ho, hs, ht⟩ := has2_of hh
  unfold betL
  rw [if_pos (by rw [Bool.and_eq_true]; exact ⟨hh, by simpa using hm⟩)]
  unfold withinL
  rw [mem_withinD, distOfI_of ho hs hv, distOfI_of ho hv ht, distL_of_turned ho hv ht]
  constructor
  · rintro ⟨-, h⟩; exact h
  · intro h; exact ⟨hv, h⟩
theorem onL_mem {N s t v : Int} {L : List Arc3} (hh : has2 N L s t = true) (hv : 0 ≤ v ∧ v < N) :
    v ∈ onL N L s t ↔ 0 ≤ distOfI N L s v ∧ 0 ≤ distOfI N L v t ∧ distOfI N L s v + distOfI N L v t = distOfI N L s t := by
  obtain ⟨ho, hs, ht⟩ := has2_of hh
  unfold onL
  rw [if_pos hh]
  unfold withinL
  have hD := distL_is (s := s) (arcsIn_of_ok ho) (okB_elim ho).2.1 hs.1 hs.2
  have hE := distL_is (s := t) (arcsIn_of_ok (revL_ok ho)) (okB_elim ho).2.1 ht.1 ht.2
  have hb := byB_on ho hD hE hv.1 hv.2
  rw [distOfI_of ho hs hv, distOfI_of ho hv ht, distOfI_of ho hs ht, ← distL_of_turned ho hv ht]
  have hm : v ∈ withinD N (distL N L s) (distL N (revL L) t) (dAt (distL N L s) t) ↔ byB (distL N L s) (distL N (revL L) t) (dAt (distL N L s) t) v = true := by
    unfold withinD
    rw [List.mem_filter, mem_nodesL]
    constructor
    · exact fun h => h.2
    · exact fun h => ⟨hv, h⟩
  rw [hm, hb, decide_eq_true_eq]
theorem betL_on {N s t : Int} {L : List Arc3} (hh : has2 N L s t = true) (hd : 0 ≤ distOfI N L s t) : betL N L s t (distOfI N L s t) = onL N L s t := by
  obtain ⟨ho, hs, ht⟩ := has2_of hh
  have hb := (distOfI_bounds (N := N) (s := s) (t := t) (L := L)).2
  unfold betL onL
  rw [if_pos (by rw [Bool.and_eq_true]; exact ⟨hh, by simp; omega⟩), if_pos hh, distOfI_of ho hs ht]
theorem betL_more {N s t m v : Int} {L : List Arc3} (hm : m < 24000) (h : v ∈ betL N L s t m) : v ∈ betL N L s t (m + 1) := by
  unfold betL at h ⊢
  split at h
  · rename_i hc
    rw [Bool.and_eq_true] at hc
    have h2 : 0 ≤ m ∧ m ≤ 24000 := by simpa using hc.2
    rw [if_pos (by rw [Bool.and_eq_true]; exact ⟨hc.1, by simp; omega⟩)]
    unfold withinL at h ⊢
    rw [mem_withinD] at h ⊢
    obtain ⟨a, b, c, d⟩ := h
    exact ⟨a, b, c, by omega⟩
  · simp at h
theorem betL_turned {N s t m : Int} {L : List Arc3} (ho : okB N L = true) : betL N (revL L) t s m = betL N L s t m := by
  have e : has2 N (revL L) t s = has2 N L s t := by
    unfold has2
    rw [ho, revL_ok ho]
    simp [and_comm]
  unfold betL
  rw [e]
  by_cases h : (has2 N L s t && decide (0 ≤ m ∧ m ≤ 24000)) = true
  · rw [if_pos h, if_pos h]
    rw [Bool.and_eq_true] at h
    obtain ⟨-, hs, ht⟩ := has2_of h.1
    unfold withinL withinD
    rw [revL_revL ho]
    congr 1
    funext v
    unfold byB
    rw [decide_eq_decide]
    constructor <;> (intro h; omega)
  · rw [if_neg h, if_neg h]
/-- The first path's nodes are on a shortest one. -/
theorem path_on {N s t x : Int} {L : List Arc3} (h : x ∈ pathL N L s t) : x ∈ onL N L s t := by
  unfold pathL at h
  split at h
  · rename_i hc
    rw [Bool.and_eq_true] at hc
    have hd : 0 ≤ dAt (distL N (revL L) t) s := by simpa using hc.2
    obtain ⟨ho, hs, ht⟩ := has2_of hc.1
    have hD := distL_is (s := s) (arcsIn_of_ok ho) (okB_elim ho).2.1 hs.1 hs.2
    have hE := distL_is (s := t) (arcsIn_of_ok (revL_ok ho)) (okB_elim ho).2.1 ht.1 ht.2
    have hw := way_path hc.1 hd
    have hx : x ∈ pathL N L s t := by
      unfold pathL
      rw [if_pos (by rw [Bool.and_eq_true]; exact hc)]
      exact h
    have h0 := hD.start
    have h1 := hE.start
    have hst := distL_of_turned ho hs ht
    obtain ⟨a, b, c, d⟩ := way_on ho hD hE hw ⟨by omega, by omega⟩ hs ht (by omega) x hx
    rw [onL_mem hc.1 a, distOfI_of ho hs a, distOfI_of ho a ht, distOfI_of ho hs ht, ← distL_of_turned ho a ht]
    exact ⟨b, c, d⟩
  · simp at h

end Go.Proofs.Ytdbjcojlcddhdaa

namespace Go.Proofs.Ytdbjcojlcddhdaa
open Go.Shelf

def idxArcs_ren : Go.Shelf.Ren := ⟨fun | 6 => 100 | n => n, fun | 22 => 24 | 23 => 51 | 25 => 117 | 3 => 3 | 0 => 0 | 4 => 4 | n => n, fun | n => n⟩
theorem idxArcs : Go.Proofs.SlLaysH0.n6 Try.prog idxArcs_ren := {
  mixed := by kernel_rfl
  f6 := ⟨Try.f100.name, by decide, Try.func100.trans (congrArg some (by kernel_rfl))⟩
  t0 := Try.underlying0
  a0 := Try.isAgg0
  z0 := Try.sizeOf0
  v0 := Try.zeroValue0
  t3 := Try.underlying3
  a3 := Try.isAgg3
  z3 := Try.sizeOf3
  v3 := Try.zeroValue3
  t4 := Try.underlying4
  a4 := Try.isAgg4
  z4 := Try.sizeOf4
  v4 := Try.zeroValue4
  t22 := Try.underlying24
  a22 := Try.isAgg24
  z22 := Try.sizeOf24
  v22 := Try.zeroValue24
  t25 := Try.underlying117
  a25 := Try.isAgg117
  z25 := Try.sizeOf117
  v25 := Try.zeroValue117 }

end Go.Proofs.Ytdbjcojlcddhdaa

set_option linter.unusedSimpArgs false
set_option linter.unusedVariables false
namespace Go.Proofs.Ytdbjcojlcddhdaa
open Go.RowKit

theorem outsL_none {N v : Int} {L : List Arc3} (h : has1 N L v = false) : outsL N L v = [] := by
  unfold outsL
  split
  · rename_i ho
    unfold fromL
    rw [List.filter_eq_nil_iff]
    intro a ha hv
    have e : a.1 = v := by simpa using hv
    have := arcsIn_of_ok ho a ha
    unfold has1 at h
    rw [ho, Bool.true_and, decide_eq_false_iff_not] at h
    exact h (by omega)
  · rfl
theorem fromL_len' (v : Int) (L : List Arc3) : (fromL v L).length ≤ L.length := by
  unfold fromL
  exact List.length_filter_le _ _

set_option maxRecDepth 100000 in
set_option maxHeartbeats 1000000 in
theorem implOuts_any (N v : Int) (A : Option Addr) (n c : Nat) (L : List Arc3) (hn : n = L.length) (hc : n ≤ c) (w : World) (hm : n ≤ 1048576) (H1 : ArcsAt w w.heap.size A L) :
    Calls Try.prog 46 #[.agg #[.int .i64 N, .slice A n c], .int .i64 v] w (ListMade (outsL N L v) w) := by
  obtain ⟨i0, hi, hz0, hz1, hz2⟩ := info_parts infoArc
  have I0 := Lib.hid hi
  have I1 := Lib.hid hz0
  have I2 := Lib.hid hz1
  have I3 := Lib.hid hz2
  have K1 := Lib.hid H1
  have HN := Lib.hid hn
  clear H1 hn hi hz0 hz1 hz2
  cases hh : has1 N L v with
  | false =>
    have HH := Lib.hid hh
    clear hh
    go_enter Try.func46, Try.ntmps46
    go_wp2_with fail
    refine (hasNodes_1 N v A n c L HN.out (w.heap.size + 1) 1 _ (by omega) (K1.out.bl (by repeat' (first | exact Bl.refl _ | with_reducible assumption | with_reducible refine Bl.drew_ ?_ | with_reducible refine Bl.drewN_ ?_ _ | with_reducible refine Bl.alloc_ ?_ _ | with_reducible refine Bl.trans_ ?_ (by assumption) | with_reducible refine Bl.trans_ ?_ (And.left (by assumption))))) (by simp) (by simp [go_sem])).mono ?_
    rintro e w1 ⟨rfl, hb1⟩
    rw [HH.out]
    go_wp2
    go_ret
    exact ⟨_, rfl, by rw [outsL_none HH.out]; exact OwnA.nil_ _ _, (by repeat' (first | exact Bl.refl _ | with_reducible assumption | with_reducible refine Bl.drew_ ?_ | with_reducible refine Bl.drewN_ ?_ _ | with_reducible refine Bl.alloc_ ?_ _ | with_reducible refine Bl.trans_ ?_ (by assumption) | with_reducible refine Bl.trans_ ?_ (And.left (by assumption))))⟩
  | true =>
    have HH := Lib.hid hh
    obtain ⟨ho, hs0, hs1⟩ := has1_of hh
    have hN24 := (okB_elim ho).2.1
    have HO := Lib.hid ho
    have HS := Lib.hid (sorted_of_ok ho)
    have HP := Lib.hid (show ∀ a ∈ L, 0 ≤ a.2.1 from fun a ha => (arcsIn_of_ok ho a ha).2.2.1)
    have hfl := fromL_len' v L
    have HFL := Lib.hid hfl
    clear hh ho hfl
    go_enter Try.func46, Try.ntmps46
    go_wp2_with fail
    refine (hasNodes_1 N v A n c L HN.out (w.heap.size + 1) 1 _ (by omega) (K1.out.bl (by repeat' (first | exact Bl.refl _ | with_reducible assumption | with_reducible refine Bl.drew_ ?_ | with_reducible refine Bl.drewN_ ?_ _ | with_reducible refine Bl.alloc_ ?_ _ | with_reducible refine Bl.trans_ ?_ (by assumption) | with_reducible refine Bl.trans_ ?_ (And.left (by assumption))))) (by simp) (by simp [go_sem])).mono ?_
    rintro e w1 ⟨rfl, hb1⟩
    rw [HH.out]
    have hx := (bcell hb1).1
    have q0 : w1.cell? ⟨w.heap.size, 0, none⟩ = some (.int .i64 N) := (hx _ _ (by simp; omega)).trans (by simp [go_sem])
    have q1 : w1.cell? ⟨w.heap.size, 1, none⟩ = some (.slice A n c) := (hx _ _ (by simp; omega)).trans (by simp [go_sem])
    have hbw : Bl w w1 := (((Bl.refl w).alloc_ _).alloc_ _).trans_ hb1
    clear hx hb1
    go_wp2_with fail
    refine (arcsFrom_any N v A n c L HN.out _ hm hc HS.out HP.out (by omega) (by omega) (K1.out.bl hbw)).mono ?_
    rintro e w2 ⟨A', c', rfl, hc', ha', -, hb2⟩
    have HA := Lib.hid (ha'.more hb2.size)
    have HB := Lib.hid (hbw.trans_ hb2)
    have HO2 := Lib.hid (show outsL N L v = fromL v L from if_pos HO.out)
    clear ha' hb2 hbw q0 q1
    obtain ⟨l, hl⟩ : ∃ l, l = (fromL v L).length := ⟨_, rfl⟩
    have hl' : l ≤ n := by rw [hl]; have := HFL.out; have := HN.out; omega
    rw [← hl]
    have HL := Lib.hid hl
    clear hl
    go_wp2_with (at_builtin; refine wpList_append_any _ rfl _ _ _ rfl w.heap.size 51 i0 _ 3 24 Try.underlying24 I0.out I1.out I2.out I3.out rfl (by decide) (.slice none 0 0) 0 (cs3 ([] : List Arc3)) rfl (World.ownsRow_nil _ _ _ _) w2.heap.size A' l c' (cs3 (fromL v L)) rfl (reads_of HL.out HA.out) (cs3_one _) ?c3 ?c4 ?c5 ?_)
    case c3 => unfold maxLen; omega
    case c4 => omega
    case c5 => exact HB.out.size
    intro v3 w3 hown hgr _
    have O := Lib.hid (own_append (F := ([] : List Arc3)) (G := fromL v L) hown (by have := HL.out; simp; omega))
    have B3 : Bl w w3 := HB.out.grown_ hgr (fun g hg => by cases hg)
    clear hown hgr
    go_wp2
    go_ret
    exact ⟨v3, rfl, by rw [HO2.out]; exact O.out, B3⟩

end Go.Proofs.Ytdbjcojlcddhdaa

set_option linter.unusedSimpArgs false
set_option linter.unusedVariables false
namespace Go.Proofs.Ytdbjcojlcddhdaa
open Go.RowKit Go.Shelf

set_option maxHeartbeats 1000000 in
theorem next1_any (lb vb : Nat) (E : List Int) (N v x y z : Int) (W : World) (hl : NumsAt W lb E) (hv : W.cell? ⟨vb, 0, none⟩ = some (.int .i64 v)) (hN : N ≤ 24) (y0 : 0 ≤ y) (y1 : y < N) (z0 : 1 ≤ z) (z1 : z ≤ 1000) (v0 : 0 ≤ v) (v1 : v < N)
    (hE : ∀ k (h : k < E.length), (k : Int) < N → -1 ≤ E[k] ∧ E[k] ≤ 23000) :
    Calls Try.prog 101 #[.agg #[.int .i64 x, .int .i64 y, .int .i64 z], .pointer (some ⟨lb, 0, none⟩), .pointer (some ⟨vb, 0, none⟩)] W fun e w' => e = .returned (.bool (nextB E v (x, y, z))) ∧ Bl W w' := by
  obtain ⟨yn, rfl⟩ : ∃ yn : Nat, y = yn := ⟨y.toNat, by omega⟩
  obtain ⟨vn, rfl⟩ : ∃ vn : Nat, v = vn := ⟨v.toNat, by omega⟩
  have hlen := hl.len
  have hyl : yn < E.length := by omega
  have hvl : vn < E.length := by omega
  have q0 := hl.cell yn hyl
  have q1 := hl.cell vn hvl
  have hby := hE yn hyl y1
  have hbv := hE vn hvl v1
  have HB := Lib.hid (show nextB E (vn : Int) (x, (yn : Int), z) = decide (0 ≤ E[yn] ∧ z + E[yn] = E[vn]) from by
    unfold nextB
    rw [dAt_at hyl, dAt_at hvl])
  generalize E[yn] = d at *
  generalize E[vn] = e at *
  have hlb := hl.lt
  have hvb := World.block_lt_of_cell? _ _ hv
  simp only at hvb
  have u1 : (0 : Int) ≤ (yn : Int) := by omega
  have u2 : (yn : Int) < 24 := by omega
  have u3 : (0 : Int) ≤ (vn : Int) := by omega
  have u4 : (vn : Int) < 24 := by omega
  clear hl hE hlen hyl hvl
  by_cases h1 : 0 ≤ d
  · have b1 : decide (0 ≤ d) = true := by simpa using h1
    have a1 : IntKind.i64.wrap (z + d) = z + d := IntWalk.i64_in _ (by omega)
    by_cases h2 : z + d = e
    · have b2 : (z + d == e) = true := by simpa using h2
      have HC := Lib.hid (show decide (0 ≤ d ∧ z + d = e) = true from by simp only [decide_eq_true_eq]; exact ⟨h1, h2⟩)
      clear h2
      go_enter Try.func101, Try.ntmps101
      go_wp2
      go_quiet (fail)
      go_wp2
      go_ret
      exact ⟨ret_bool (by rw [HB.out, HC.out]), (by repeat' (first | exact Bl.refl _ | with_reducible assumption | with_reducible refine Bl.drew_ ?_ | with_reducible refine Bl.drewN_ ?_ _ | with_reducible refine Bl.alloc_ ?_ _ | with_reducible refine Bl.trans_ ?_ (by assumption) | with_reducible refine Bl.trans_ ?_ (And.left (by assumption))))⟩
    · have b2 : (z + d == e) = false := by simpa using h2
      have HC := Lib.hid (show decide (0 ≤ d ∧ z + d = e) = false from by simp only [decide_eq_false_iff_not]; exact fun h => h2 h.2)
      clear h2
      go_enter Try.func101, Try.ntmps101
      go_wp2
      go_quiet (fail)
      go_wp2
      go_ret
      exact ⟨ret_bool (by rw [HB.out, HC.out]), (by repeat' (first | exact Bl.refl _ | with_reducible assumption | with_reducible refine Bl.drew_ ?_ | with_reducible refine Bl.drewN_ ?_ _ | with_reducible refine Bl.alloc_ ?_ _ | with_reducible refine Bl.trans_ ?_ (by assumption) | with_reducible refine Bl.trans_ ?_ (And.left (by assumption))))⟩
  · have b1 : decide (0 ≤ d) = false := by simpa using h1
    have HC := Lib.hid (show decide (0 ≤ d ∧ z + d = e) = false from by simp only [decide_eq_false_iff_not]; exact fun h => h1 h.1)
    go_enter Try.func101, Try.ntmps101
    go_wp2
    go_quiet (fail)
    go_wp2
    go_ret
    exact ⟨ret_bool (by rw [HB.out, HC.out]), (by repeat' (first | exact Bl.refl _ | with_reducible assumption | with_reducible refine Bl.drew_ ?_ | with_reducible refine Bl.drewN_ ?_ _ | with_reducible refine Bl.alloc_ ?_ _ | with_reducible refine Bl.trans_ ?_ (by assumption) | with_reducible refine Bl.trans_ ?_ (And.left (by assumption))))⟩

def encN {N : Int} (y : ArcN N) : List Value := [.int .i64 y.a.1, .int .i64 y.a.2.1, .int .i64 y.a.2.2]
theorem box24 {w wx : World} {E : List Int} {t : TypeId} (hE : E.length = 24) (h : Bl (w.alloc (.cells (E.map (Value.int .i64)).toArray t)) wx) : NumsAt wx w.heap.size E := by
  refine NumsAt.bl (w := w.alloc (.cells (E.map (Value.int .i64)).toArray t)) ⟨by simp, hE, fun i hi => ?_, fun i hi => ?_⟩ h
  · simp [go_sem, hi]
  · simp [go_sem]

set_option maxRecDepth 100000 in
set_option maxHeartbeats 2000000 in
theorem nextNode_any (N v : Int) (A : Option Addr) (n c : Nat) (L : List Arc3) (hn : n = L.length) (hc : n ≤ c) (ho : okB N L = true) (E : List Int) (hE : E.length = 24)
    (hEb : ∀ k (h : k < E.length), (k : Int) < N → -1 ≤ E[k] ∧ E[k] ≤ 23000) (v0 : 0 ≤ v) (v1 : v < N) (a : Arc3) (hnext : nextL L (E.take N.toNat) v = some a) (w : World) (hm : n ≤ 1048576) (H1 : ArcsAt w w.heap.size A L) :
    Calls Try.prog 78 #[.agg #[.int .i64 N, .slice A n c], .agg (E.map (Value.int .i64)).toArray, .int .i64 v] w fun e w' => e = .returned (.int .i64 a.2.1) ∧ Bl w w' := by
  have K1 := Lib.hid H1
  have HN := Lib.hid hn
  have HO := Lib.hid ho
  have EL := Lib.hid hE
  have EB := Lib.hid hEb
  have NX := Lib.hid hnext
  have hN24 := (okB_elim ho).2.1
  have hN1 := (okB_elim ho).1
  clear H1 hn ho hE hEb hnext
  go_enter Try.func78, Try.ntmps78
  go_wp2_with fail
  refine (arcsFrom_any N v A n c L HN.out _ (by omega) hc (sorted_of_ok HO.out) (fun a ha => (arcsIn_of_ok HO.out a ha).2.2.1) (by omega) (by omega) (K1.out.bl (by repeat' (first | exact Bl.refl _ | with_reducible assumption | with_reducible refine Bl.drew_ ?_ | with_reducible refine Bl.drewN_ ?_ _ | with_reducible refine Bl.alloc_ ?_ _ | with_reducible refine Bl.trans_ ?_ (by assumption) | with_reducible refine Bl.trans_ ?_ (And.left (by assumption)))))).mono ?_
  rintro e w1 ⟨A', c1, rfl, hc1, hA1, hblk, hb1⟩
  have hR := NX.out
  unfold nextL at hR
  obtain ⟨k, hk, ha, hq, hno⟩ := first_at hR
  have hin : ∀ b ∈ fromL v L, 0 ≤ b.2.1 ∧ b.2.1 < N ∧ 1 ≤ b.2.2 ∧ b.2.2 ≤ 1000 := fun b hb => by
    have h := arcsIn_of_ok HO.out b (by unfold fromL at hb; exact (List.mem_filter.1 hb).1)
    exact ⟨h.2.2.1, h.2.2.2.1, h.2.2.2.2.1, h.2.2.2.2.2⟩
  have hnt : N.toNat ≤ E.length := by rw [EL.out]; omega
  have hsame : ∀ b ∈ fromL v L, nextB (E.take N.toNat) v b = nextB E v b := fun b hb => nextB_take hnt ⟨v0, by omega⟩ ⟨(hin b hb).1, by have := (hin b hb).2.1; omega⟩
  rw [hsame _ (List.getElem_mem hk)] at hq
  have hno' : ∀ j (hj : j < k), nextB E v ((fromL v L)[j]'(by omega)) = false := fun j hj => by rw [← hsame _ (List.getElem_mem (by omega))]; exact hno j hj
  haveI : Inhabited (ArcN N) := ⟨⟨(0, 0, 1), by show (0 : Int) ≤ 0; omega, by show (0 : Int) < N; omega, by show (1 : Int) ≤ 1; omega, by show (1 : Int) ≤ 1000; omega⟩⟩
  have hidx := idx_first hin (nextB E v) hk hq hno'
  obtain ⟨g, off, rfl, hg, hcell⟩ := hA1 (by omega)
  have hB := Lib.hid (show Bl w w1 from (((Bl.alloc_ (Bl.refl w) _).alloc_ _).alloc_ _).trans_ hb1)
  have hgl : g < w1.heap.size := Nat.lt_of_lt_of_le hg hb1.size
  have NA := Lib.hid (show ∀ W, Below w1.heap.size w1 W → NumsAt W (w.heap.size + 1) E ∧ W.cell? ⟨w.heap.size + 2, 0, none⟩ = some (.int .i64 v) from fun W hW => by
    have hbW : Bl w1 W := hW
    have h1 := box24 (w := w.alloc (.cells #[.int .i64 N, .slice A n c] 26)) (t := 83) EL.out ((Bl.alloc_ (Bl.refl _) (.cells #[.int .i64 v] 2)).trans_ (hb1.trans_ hbW))
    rw [World.size_alloc] at h1
    have h2 := box1 (w := (w.alloc (.cells #[.int .i64 N, .slice A n c] 26)).alloc (.cells (E.map (Value.int .i64)).toArray 83)) (hb1.trans_ hbW)
    rw [World.size_alloc, World.size_alloc] at h2
    exact ⟨h1, h2⟩)
  have hcon := AnyQ.slices_IndexFunc (P := Try.prog) (ρ := idxArcs_ren) { idxArcs with } 3 (fun w => by kernel_rfl) (fun w => by kernel_rfl) (encN (N := N)) (fun _ => rfl)
    (fun y => nextB E v y.a) 101 #[.pointer (some ⟨w.heap.size + 1, 0, none⟩), .pointer (some ⟨w.heap.size + 2, 0, none⟩)] (enters_of Try.func101 (by kernel_rfl) rfl) g off (fromL v L).length c1 (arcsN (fromL v L) hin) w1
    (fun W x hW => by
      obtain ⟨h1, h2⟩ := NA.out W hW
      obtain ⟨⟨x1, x2, x3⟩, hx1, hx2, hx3, hx4⟩ := x
      refine (next1_any (w.heap.size + 1) (w.heap.size + 2) E N v x1 x2 x3 W h1 h2 hN24 hx1 hx2 hx3 hx4 v0 v1 EB.out).mono ?_
      rintro e w' ⟨rfl, hb'⟩
      exact ⟨rfl, (show Bl w1 w' from (show Bl w1 W from hW).trans_ hb')⟩)
    (by rw [arcsN_len]; exact Nat.le_refl _) (by have := fromL_len' v L; have := HN.out; omega) hgl
    (fun j hj i u hu => by
      rw [arcsN_len] at hj
      obtain ⟨p1, p2, p3⟩ := hcell j hj
      have e := arcsN_at hin hj
      unfold encN at hu
      rw [e] at hu
      match i, hu with
      | 0, hu => simp at hu; rw [← hu]; exact p1
      | 1, hu => simp at hu; rw [← hu]; exact p2
      | 2, hu => simp at hu; rw [← hu]; exact p3
      | (i + 3), hu => simp at hu)
  change Calls Try.prog 100 _ _ _ at hcon
  rw [hidx] at hcon
  obtain ⟨p1, p2, p3⟩ := hcell k hk
  have HKL := Lib.hid hk
  obtain ⟨R, hRl⟩ : ∃ R, R = (fromL v L).length := ⟨_, rfl⟩
  rw [← hRl] at hcon hk ⊢
  rw [ha] at p2
  have HA := Lib.hid ha
  have hkc : (k : Int) < (R : Int) := by omega
  have hk0 : (0 : Int) ≤ (k : Int) := by omega
  have CON := Lib.hid hcon
  clear hcon hidx hcell hno hno' hsame hq hR hRl p1 p3 hin ha
  generalize a.2.1 = y at *
  go_wp2_with fail
  refine CON.out.mono ?_
  rintro e w2 ⟨rfl, hb2⟩
  have hb2 : Bl w1 w2 := hb2
  rw [← (bcell hb2).1 _ _ hgl] at p2
  go_wp2
  go_ret
  exact ⟨by first | rfl | kernel_rfl | simp [go_sem] | exact ret_val rfl, hB.out.trans_ hb2⟩

end Go.Proofs.Ytdbjcojlcddhdaa

set_option linter.unusedSimpArgs false
set_option linter.unusedVariables false
namespace Go.Proofs.Ytdbjcojlcddhdaa
open Go.RowKit

/-- A path and a flag are left. -/
def PathMade (P : List Int) (w : World) (e : Ending) (w' : World) : Prop := ∃ v, e = .returned (.tuple #[v, .bool (decide (0 < P.length))]) ∧ OwnN w' w.heap.size v P ∧ Bl w w'
theorem pathL_none {N s t : Int} {L : List Arc3} (h : has2 N L s t = false) : pathL N L s t = [] := by
  unfold pathL
  rw [if_neg (by rw [h]; simp)]
theorem OwnA.capp {w : World} {B : Nat} {v : Value} {L : List Arc3} (h : OwnA w B v L) : ∀ A l c, v = .slice A l c → L.length ≤ c := fun A l c ev => by
  subst ev
  have h' : w.ownsRow B 51 3 (.slice A l c) L.length (cs3 L) := h
  rcases h'.2 with ⟨e, h0⟩ | ⟨g, cap, cur, e, hB, hg, hnc, -⟩
  · injection e with e1 e2 e3
    omega
  · injection e with e1 e2 e3
    omega

set_option maxRecDepth 100000 in
set_option maxHeartbeats 4000000 in
theorem implPathOf_any (N s t : Int) (A : Option Addr) (n c : Nat) (L : List Arc3) (hn : n = L.length) (hc : n ≤ c) (w : World) (hm : n ≤ 1048576) (H1 : ArcsAt w w.heap.size A L) :
    Calls Try.prog 39 #[.agg #[.int .i64 N, .slice A n c], .int .i64 s, .int .i64 t] w (PathMade (pathL N L s t) w) := by
  obtain ⟨i0, hi, hz0, hz1, hz2⟩ := info_parts infoInt
  have I0 := Lib.hid hi
  have I1 := Lib.hid hz0
  have I2 := Lib.hid hz1
  have I3 := Lib.hid hz2
  have K1 := Lib.hid H1
  have HN := Lib.hid hn
  clear H1 hn hi hz0 hz1 hz2
  cases hh : has2 N L s t with
  | false =>
    have HH := Lib.hid hh
    clear hh
    go_enter Try.func39, Try.ntmps39
    go_wp2_with fail
    refine (hasNodes_2 N s t A n c L HN.out (w.heap.size + 1) 2 _ (by omega) (K1.out.bl (by repeat' (first | exact Bl.refl _ | with_reducible assumption | with_reducible refine Bl.drew_ ?_ | with_reducible refine Bl.drewN_ ?_ _ | with_reducible refine Bl.alloc_ ?_ _ | with_reducible refine Bl.trans_ ?_ (by assumption) | with_reducible refine Bl.trans_ ?_ (And.left (by assumption))))) (by simp) (by simp [go_sem]) (by simp [go_sem])).mono ?_
    rintro e w1 ⟨rfl, hb1⟩
    rw [HH.out]
    go_wp2
    go_ret2
    exact ⟨_, by rw [pathL_none HH.out]; rfl, by rw [pathL_none HH.out]; exact OwnN.nil_ _ _, (by repeat' (first | exact Bl.refl _ | with_reducible assumption | with_reducible refine Bl.drew_ ?_ | with_reducible refine Bl.drewN_ ?_ _ | with_reducible refine Bl.alloc_ ?_ _ | with_reducible refine Bl.trans_ ?_ (by assumption) | with_reducible refine Bl.trans_ ?_ (And.left (by assumption))))⟩
  | true =>
    have HH := Lib.hid hh
    obtain ⟨ho, ⟨hs0, hs1⟩, ht0, ht1⟩ := has2_of hh
    have hN24 := (okB_elim ho).2.1
    have HO := Lib.hid ho
    have HRO := Lib.hid (revL_ok ho)
    have HRL := Lib.hid (revL_len (okB_elim ho).2.2.2.2)
    have HE := Lib.hid (distL_is (s := t) (arcsIn_of_ok (revL_ok ho)) hN24 ht0 ht1)
    have HET := Lib.hid (fun v => distL_top (s := t) (revL_ok ho) ht0 ht1 v)
    obtain ⟨u, rfl⟩ : ∃ u : Nat, s = u := ⟨s.toNat, by omega⟩
    clear hh ho
    go_enter Try.func39, Try.ntmps39
    go_wp2_with fail
    refine (hasNodes_2 N u t A n c L HN.out (w.heap.size + 1) 2 _ (by omega) (K1.out.bl (by repeat' (first | exact Bl.refl _ | with_reducible assumption | with_reducible refine Bl.drew_ ?_ | with_reducible refine Bl.drewN_ ?_ _ | with_reducible refine Bl.alloc_ ?_ _ | with_reducible refine Bl.trans_ ?_ (by assumption) | with_reducible refine Bl.trans_ ?_ (And.left (by assumption))))) (by simp) (by simp [go_sem]) (by simp [go_sem])).mono ?_
    rintro e w1 ⟨rfl, hb1⟩
    rw [HH.out]
    have hx := (bcell hb1).1
    have q0 : w1.cell? ⟨w.heap.size, 0, none⟩ = some (.int .i64 N) := (hx _ _ (by simp; omega)).trans (by simp [go_sem])
    have q1 : w1.cell? ⟨w.heap.size, 1, none⟩ = some (.slice A n c) := (hx _ _ (by simp; omega)).trans (by simp [go_sem])
    have hbw : Bl w w1 := (((Bl.refl w).alloc_ _).alloc_ _).trans_ hb1
    have hsw : w.heap.size < w1.heap.size := by have := hb1.size; simp at this; omega
    clear hx hb1
    go_wp2_with fail
    refine (implReversed_any N A n c L HN.out _ hm (K1.out.bl hbw)).mono ?_
    rintro e w2 ⟨v6, rfl, hv6, hb2⟩
    rw [show revN N L = N from if_pos HO.out]
    rw [show revG N L = revL L from if_pos HO.out] at hv6
    have hcap := OwnA.capp hv6
    obtain ⟨A6, c6, rfl, ha6, -⟩ := hv6.shape
    have V6 := Lib.hid ha6
    have HC6 := Lib.hid (hcap _ _ _ rfl)
    clear hv6 hcap ha6
    go_wp2_with fail
    refine (distances_any N t A6 (revL L).length c6 (revL L) rfl HC6.out HRO.out ht0 ht1 _ V6.out).mono ?_
    rintro e w3 ⟨E, rfl, hE, hEd, hb3⟩
    have EL := Lib.hid hE
    have ED := Lib.hid hEd
    have HB3 := Lib.hid (hbw.trans_ (hb2.trans_ hb3))
    have hb13 := hb2.trans_ hb3
    have r0 := ((bcell hb13).1 _ _ hsw).trans q0
    have r1 := ((bcell hb13).1 _ _ hsw).trans q1
    have hs3 := hb13.size
    have hsw3 : w.heap.size < w3.heap.size := by omega
    clear hE hEd q0 q1 hb2 hb3 hb13 hbw
    have NS := Lib.hid (NumsAt.stored EL.out (by simp) (there_new w3 83))
    have hbS := Bl.setCells_ w3.heap.size (Nat.le_refl _) (csI E) 0 _ ((Bl.refl w3).alloc_ (.cells #[.int .i64 0, .int .i64 0, .int .i64 0, .int .i64 0, .int .i64 0, .int .i64 0, .int .i64 0, .int .i64 0, .int .i64 0, .int .i64 0, .int .i64 0, .int .i64 0, .int .i64 0, .int .i64 0, .int .i64 0, .int .i64 0, .int .i64 0, .int .i64 0, .int .i64 0, .int .i64 0, .int .i64 0, .int .i64 0, .int .i64 0, .int .i64 0] 83))
    have HBS := Lib.hid hbS
    have hz := setCells_size w3.heap.size (csI E) 0 (w3.alloc (.cells #[.int .i64 0, .int .i64 0, .int .i64 0, .int .i64 0, .int .i64 0, .int .i64 0, .int .i64 0, .int .i64 0, .int .i64 0, .int .i64 0, .int .i64 0, .int .i64 0, .int .i64 0, .int .i64 0, .int .i64 0, .int .i64 0, .int .i64 0, .int .i64 0, .int .i64 0, .int .i64 0, .int .i64 0, .int .i64 0, .int .i64 0, .int .i64 0] 83))
    obtain ⟨W, hW⟩ : ∃ W, W = (w3.alloc (.cells #[.int .i64 0, .int .i64 0, .int .i64 0, .int .i64 0, .int .i64 0, .int .i64 0, .int .i64 0, .int .i64 0, .int .i64 0, .int .i64 0, .int .i64 0, .int .i64 0, .int .i64 0, .int .i64 0, .int .i64 0, .int .i64 0, .int .i64 0, .int .i64 0, .int .i64 0, .int .i64 0, .int .i64 0, .int .i64 0, .int .i64 0, .int .i64 0] 83)).setCells w3.heap.size 0 (csI E) := ⟨_, rfl⟩
    have NSW : NumsAt W w3.heap.size E := by rw [hW]; exact NS.out
    have BSW : Bl w3 W := by rw [hW]; exact HBS.out
    have szW : W.heap.size = w3.heap.size + 1 := by rw [hW, hz]; simp
    have e0 := ((bcell BSW).1 _ _ hsw3).trans r0
    have e1 := ((bcell BSW).1 _ _ hsw3).trans r1
    clear hz hbS HBS r0 r1
    have hEl := EL.out
    have hue : u < E.length := by rw [hEl]; omega
    have q2 := NSW.cell u hue
    have hDu : dAt (distL N (revL L) t) u = E[u] := by
      rw [← ED.out]
      unfold dAt
      simp only [List.getD_eq_getElem?_getD]
      rw [List.getElem?_take, if_pos (by omega)]
      simp [hue]
    have HDU := Lib.hid hDu
    generalize E[u] = d at q2 HDU
    clear hDu
    rw [hW] at q2
    have u0 : (0 : Int) ≤ (u : Int) := by omega
    have u1 : (u : Int) < 24 := by omega
    by_cases hd : d < 0
    · have bd : decide (d < 0) = true := by simpa using hd
      have HP := Lib.hid (show pathL N L u t = [] from by
        unfold pathL
        rw [if_neg (by rw [HDU.out, Bool.and_eq_true]; intro h; have := of_decide_eq_true h.2; omega)])
      go_wp2_with (refine wpList_store_mid rfl 83 (.tmp 8) (.tmp 20) rfl w3.heap.size 0 (csI E).toArray rfl rfl ?c1 ?c2 (csI_one _) ?_)
      case c1 => simpa [csI_len, EL.out] using there_new w3 _
      case c2 => simpa [csI_len, EL.out] using size24
      rw [← hW]
      go_ret2
      exact ⟨_, by rw [HP.out]; rfl, by rw [HP.out]; exact OwnN.nil_ _ _, HB3.out.trans_ BSW⟩
    · have bd : decide (d < 0) = false := by simpa using hd
      have HP := Lib.hid (show pathL N L u t = (u : Int) :: stepsL L (distL N (revL L) t) t u from by
        unfold pathL
        rw [if_pos (by rw [HDU.out, Bool.and_eq_true]; exact ⟨HH.out, by simp; omega⟩)])
      have ST := Lib.hid (OnWay.start (L := L) (D := distL N (revL L) t) (t := t) (s := (u : Int)) (by rw [HDU.out]; omega))
      have hdb := (HET.out u).2
      have NW := Lib.hid (fun (v : Int) h0 h1 hv hd => nextL_some (L := L) (v := v) HO.out HE.out h0 h1 hv hd)
      have EB := Lib.hid (show ∀ k (h : k < E.length), (k : Int) < N → -1 ≤ E[k] ∧ E[k] ≤ 23000 from fun k hk hkN => by
        have h1 := HET.out k
        rw [← ED.out] at h1
        have h2 : dAt (E.take N.toNat) (k : Int) = E[k] := by
          unfold dAt
          simp only [List.getD_eq_getElem?_getD]
          rw [List.getElem?_take, if_pos (by omega)]
          simp [hk]
        rw [h2] at h1
        exact h1)
      have NXT := Lib.hid (fun (v : Int) (a : Arc3) (h : nextL L (distL N (revL L) t) v = some a) => (show nextL L (E.take N.toNat) v = some a from by rw [ED.out]; exact h))
      have hu1 := hs1
      generalize hDD : distL N (revL L) t = D at *
      have AA := Lib.hid (K1.out.bl (HB3.out.trans_ BSW))
      have BB := Lib.hid (HB3.out.trans_ BSW)
      have O0 := Lib.hid (show OwnN (W.alloc (.cells #[.int .i64 (u : Int)] 2)) (w3.heap.size + 1) (.slice (some ⟨w3.heap.size + 1, 0, none⟩) 1 1) [(u : Int)] from by
        rw [← szW]
        exact ⟨rfl, .inr ⟨W.heap.size, 1, #[.int .i64 (u : Int)], rfl, Nat.le_refl _, World.alloc_heap_new _ _, Nat.le_refl _, by unfold maxLen; omega, rfl, rfl⟩⟩)
      have BX := Lib.hid (show ∀ wx, Bl W wx → (wx.cell? ⟨w.heap.size, 0, none⟩ = some (.int .i64 N) ∧ wx.cell? ⟨w.heap.size, 1, none⟩ = some (.slice A n c)) ∧ NumsAt wx w3.heap.size E from fun wx hb => ⟨⟨((bcell hb).1 _ _ (by omega)).trans e0, ((bcell hb).1 _ _ (by omega)).trans e1⟩, NSW.bl hb⟩)
      clear e0 e1 HE HET HDU BSW NSW hDD hue hEl
      go_wp2_with (refine wpList_store_mid rfl 83 (.tmp 8) (.tmp 20) rfl w3.heap.size 0 (csI E).toArray rfl rfl ?c1 ?c2 (csI_one _) ?_)
      case c1 => simpa [csI_len, EL.out] using there_new w3 _
      case c2 => simpa [csI_len, EL.out] using size24
      rw [← hW]
      clear q2 hW NS
      go_loopw [9, 10] (fun pv vv wr => ∃ (P : List Int) (v : Int), (0 ≤ v ∧ v < N) ∧ vv = .int .i64 v ∧ OwnN wr (w3.heap.size + 1) pv P ∧ OnWay L D u t P v ∧ Bl W wr) (fun _ vv _ => (dAt D (intOf vv)).toNat)
      case atStart => exact ⟨[(u : Int)], u, ⟨by omega, hu1⟩, rfl, O0.out, ST.out, Bl.alloc_ (Bl.refl W) _⟩
      case round =>
        obtain ⟨P, v, ⟨hv0, hv1⟩, rfl, hO, hway, hbl⟩ := hrel
        have O := Lib.hid hO
        have WY := Lib.hid hway
        obtain ⟨⟨q0, q1⟩, hNS⟩ := BX.out _ hbl
        have NS := Lib.hid hNS
        have hPl : P.length ≤ 23001 := hway.len hdb
        clear hO hway hNS
        by_cases hvt : v = t
        · have bv : (v != t) = false := by simpa using hvt
          subst hvt
          go_wp2
          go_ret2
          refine ⟨u9, ?_, ?_, BB.out.trans_ hbl⟩
          · rw [HP.out]; rfl
          · rw [HP.out, ← WY.out.done]; exact O.out.low (by have := BB.out.size; omega)
        · have bv : (v != t) = true := by simpa using hvt
          obtain ⟨a, hnx, haL, ha1, hap, has, ha0, haN, hal⟩ := NW.out v hv0 hv1 hvt WY.out.far
          have NX := Lib.hid hnx
          have WY2 := Lib.hid (WY.out.next hvt hnx hap hal)
          have LT := Lib.hid hal
          clear hnx haL ha1 hap has hal
          go_wp2_with (refine wpList_load_mid rfl 83 (.tmp 8) rfl w3.heap.size 0 rfl (csI E) _ NS.out.range Try.underlying83 rfl (by rw [csI_len, EL.out]; exact size24) ?_)
          refine (nextNode_any N v A n c L HN.out hc HO.out E EL.out EB.out hv0 hv1 a (NXT.out v a NX.out) _ hm (AA.out.bl hbl)).mono ?_
          rintro e w7 ⟨rfl, hb7⟩
          have O7 := Lib.hid (O.out.bl hb7)
          have B7 := Lib.hid (hbl.trans_ hb7)
          have hs7 := B7.out.size
          clear hb7 q0 q1 hbl
          generalize hya : a.2.1 = y at *
          have YA := Lib.hid hya
          clear hya
          go_wp2_with (at_builtin; refine wpList_append_any _ rfl (.tmp 35) (.tmp 37) _ rfl (w3.heap.size + 1) 2 i0 _ 1 8 Try.underlying38 I0.out I1.out I2.out I3.out rfl (by decide) _ P.length (csI P) rfl (World.ownsRow.alloc O7.out _) (w7.heap.size + 1) (some ⟨w7.heap.size, 0, none⟩) 1 1 [.int .i64 y] rfl ?c0 (by simp [Value.oneCell']) ?c3 ?c4 ?c5 ?_)
          case c0 =>
            refine ⟨rfl, fun _ => ⟨_, rfl, by show w7.heap.size < w7.heap.size + 1; omega, fun x u hj => ?_⟩⟩
            match x, hj with
            | 0, hj => simp at hj; subst hj; simp [Addr.add, go_sem]
            | (x + 1), hj => simp at hj
          case c3 => unfold maxLen; omega
          case c4 => omega
          case c5 => simp; omega
          intro v' w8 hown' hgrow hwh
          have O8 := Lib.hid (OwnN.snoc (V := P) (x := y) (n := P.length) rfl (by simpa using hown'))
          have B8 := Lib.hid (show Bl W w8 from (B7.out.alloc_ (.cells #[.int .i64 y] 2)).grown_ hgrow (fun g hg => by have := (Owns.lt O7.out g hg).1; omega))
          clear hown' hgrow hwh
          go_wp2
          go_roundw
          case rel => exact ⟨P ++ [y], y, ⟨ha0, haN⟩, rfl, O8.out, WY2.out, B8.out⟩
          case measure =>
            have h1 := LT.out
            have h2 := WY2.out.far
            simp only [intOf]
            omega

end Go.Proofs.Ytdbjcojlcddhdaa

set_option linter.unusedSimpArgs false
set_option linter.unusedVariables false
namespace Go.Proofs.Ytdbjcojlcddhdaa
open Go.RowKit

/-- There is a path just where there are nodes on one. -/
theorem path_some {N s t : Int} {L : List Arc3} (hh : has2 N L s t = true) : decide (0 < (pathL N L s t).length) = decide (0 < (onL N L s t).length) := by
  rw [decide_eq_decide]
  obtain ⟨ho, hs, ht⟩ := has2_of hh
  by_cases hd : 0 ≤ dAt (distL N (revL L) t) s
  · have hw := way_path hh hd
    have hp := hw.pos
    have hm : s ∈ pathL N L s t := by
      have h2 : (pathL N L s t)[0] ∈ pathL N L s t := List.getElem_mem hp
      rw [hw.head hp] at h2
      exact h2
    have := List.length_pos_of_mem (path_on hm)
    omega
  · have h1 : pathL N L s t = [] := by
      unfold pathL
      rw [if_neg (by rw [Bool.and_eq_true]; intro h; exact hd (of_decide_eq_true h.2))]
    have h2 : onL N L s t = [] := by
      unfold onL
      rw [if_pos hh]
      unfold withinL
      exact withinD_none (by rw [← distL_of_turned ho hs ht]; omega)
    rw [h1, h2]

set_option maxRecDepth 100000 in
set_option maxHeartbeats 8000000 in
theorem lawOnShortest2_any (A : Option Addr) (n c : Nat) (w : World) (H : BytesAt w A n) :
    Calls Try.prog 7 #[.slice A n c] w fun e w' => e = .returned (.bool true) ∧ Bl w w' := by
  have K := Lib.hid H
  clear H
  by_cases hbig : (1048576 : Int) < (n : Int)
  · have hb : decide ((1048576 : Int) < (n : Int)) = true := by simpa using hbig
    clear hbig
    go_enter Try.func7, Try.ntmps7
    go_wp2_with (go_at_call 15; refine (big_any _ _ _ _).mono ?_; rintro e w' ⟨rfl, rfl⟩)
    go_ret
    exact ⟨rfl, (by repeat' (first | exact Bl.refl _ | with_reducible assumption | with_reducible refine Bl.drew_ ?_ | with_reducible refine Bl.drewN_ ?_ _ | with_reducible refine Bl.alloc_ ?_ _ | with_reducible refine Bl.trans_ ?_ (by assumption) | with_reducible refine Bl.trans_ ?_ (And.left (by assumption))))⟩
  · have hb : decide ((1048576 : Int) < (n : Int)) = false := by simpa using hbig
    have hn : n ≤ 1099511627776 := by omega
    clear hbig
    go_enter Try.func7, Try.ntmps7
    go_wp2_with fail
    refine (big_any _ _ _ _).mono ?_
    rintro e w1 ⟨rfl, rfl⟩
    go_wp2_with fail
    refine (drawOnShortest_any A n c _ hn K.out).mono ?_
    rintro e w1 ⟨N, A', l, c', L, s, t, rfl, hd, hs, ht, hb1⟩
    obtain ⟨ha, hlc⟩ := hd.arcs
    have HL := Lib.hid hd.1
    have hl200 := hd.2.1
    have HA := Lib.hid (ha.bl (Bl.alloc_ (Bl.refl w1) (.cells #[.int .i64 N, .slice A' l c'] 26)))
    have B1 := Lib.hid (hb1.alloc_ (.cells #[.int .i64 N, .slice A' l c'] 26))
    clear hd hs ht hb1 ha
    go_wp2_with fail
    refine (implOnShortest_any N s t A' l c' L HL.out hlc _ (by omega) HA.out).mono ?_
    rintro e w2 ⟨v2, rfl, hv2, hb2⟩
    obtain ⟨A2, c2, rfl, -, hi2, -, -⟩ := OwnN.shape hv2
    have I2 := Lib.hid hi2
    obtain ⟨k, hk⟩ : ∃ k, k = (onL N L s t).length := ⟨_, rfl⟩
    have hk20 : k ≤ 1048576 := by rw [hk]; exact onL_len N L s t
    rw [← hk]
    have HK := Lib.hid hk
    obtain ⟨q0, q1⟩ := box2 hb2
    clear hv2 hi2 hk
    go_wp2_with fail
    refine (specOnShortest_any N s t A' l c' L HL.out hlc _ (by omega) (HA.out.bl hb2)).mono ?_
    rintro e w3 ⟨v3, rfl, hv3, hb3⟩
    obtain ⟨A3, c3, rfl, -, hi3, -, -⟩ := OwnN.shape hv3
    have I3 := Lib.hid hi3
    rw [← HK.out]
    clear hv3 hi3 q0 q1
    go_wp2_with fail
    refine (sameInts_yes A2 A3 c2 c3 _ k HK.out _ (by omega) (I2.out.bl hb3) I3.out).mono ?_
    rintro e w4 ⟨rfl, hb4⟩
    have P4 := Lib.hid (hb2.trans_ (hb3.trans_ hb4))
    have I4 := Lib.hid (I2.out.bl (hb3.trans_ hb4))
    clear hb2 hb3 hb4
    obtain ⟨q0, q1⟩ := box2 P4.out
    go_wp2_with fail
    refine (nodeLaw_any N s A' l c' L HL.out _ (by omega) (HA.out.bl P4.out)).mono ?_
    rintro e w21 ⟨rfl, hb21⟩
    have P21 := Lib.hid (P4.out.trans_ hb21)
    have I21 := Lib.hid (I4.out.bl hb21)
    clear hb21 q0 q1
    obtain ⟨q0, q1⟩ := box2 P21.out
    cases hs1 : has1 N L s with
    | false =>
      clear hs1
      go_wp2_with fail
      refine (specOnShortest_any N s t A' l c' L HL.out hlc _ (by omega) (HA.out.bl P21.out)).mono ?_
      rintro e w6 ⟨v6, rfl, hv6, hb6⟩
      obtain ⟨A6, c6, rfl, -, hi6, -, -⟩ := OwnN.shape hv6
      have I6 := Lib.hid hi6
      rw [← HK.out]
      clear hv6 hi6
      go_wp2_with fail
      refine (sameInts_yes A2 A6 c2 c6 _ k HK.out _ (by omega) (I21.out.bl hb6) I6.out).mono ?_
      rintro e w7 ⟨rfl, hb7⟩
      go_wp2
      go_ret
      exact ⟨rfl, B1.out.trans_ (P21.out.trans_ (hb6.trans_ hb7))⟩
    | true =>
      go_wp2_with fail
      refine (nodeLaw_any N t A' l c' L HL.out _ (by omega) (HA.out.bl P21.out)).mono ?_
      rintro e w22 ⟨rfl, hb22⟩
      have P22 := Lib.hid (P21.out.trans_ hb22)
      have I22 := Lib.hid (I21.out.bl hb22)
      clear hb22 q0 q1
      obtain ⟨q0, q1⟩ := box2 P22.out
      cases ht1 : has1 N L t with
      | false =>
        clear ht1
        go_wp2_with fail
        refine (specOnShortest_any N s t A' l c' L HL.out hlc _ (by omega) (HA.out.bl P22.out)).mono ?_
        rintro e w6 ⟨v6, rfl, hv6, hb6⟩
        obtain ⟨A6, c6, rfl, -, hi6, -, -⟩ := OwnN.shape hv6
        have I6 := Lib.hid hi6
        rw [← HK.out]
        clear hv6 hi6
        go_wp2_with fail
        refine (sameInts_yes A2 A6 c2 c6 _ k HK.out _ (by omega) (I22.out.bl hb6) I6.out).mono ?_
        rintro e w7 ⟨rfl, hb7⟩
        go_wp2
        go_ret
        exact ⟨rfl, B1.out.trans_ (P22.out.trans_ (hb6.trans_ hb7))⟩
      | true =>
        have hh : has2 N L s t = true := by
          obtain ⟨ho, hs⟩ := has1_of hs1
          obtain ⟨-, ht⟩ := has1_of ht1
          unfold has2
          rw [ho, Bool.true_and, decide_eq_true_eq]
          exact ⟨hs, ht⟩
        clear hs1 ht1
        have MEM := Lib.hid (fun (v : Int) (hv : 0 ≤ v ∧ v < N) => onL_mem (v := v) hh hv)
        have SOME := Lib.hid (path_some hh)
        have PON := Lib.hid (fun (x : Int) (hx : x ∈ pathL N L s t) => path_on hx)
        have PL := Lib.hid (pathL_len N L s t)
        have hN1 := (okB_elim (has2_of hh).1).1
        have hN24 := (okB_elim (has2_of hh).1).2.1
        obtain ⟨z, rfl⟩ : ∃ z : Nat, N = z := ⟨N.toNat, by omega⟩
        clear hh
        go_wp2_with fail
        refine (implDistOf_any z s t A' l c' L HL.out hlc _ (by omega) (HA.out.bl P22.out)).mono ?_
        rintro e w23 ⟨rfl, hb23⟩
        have P23 := Lib.hid (P22.out.trans_ hb23)
        have I23 := Lib.hid (I22.out.bl hb23)
        have D0 := Lib.hid (distOfI_bounds (N := z) (s := s) (t := t) (L := L))
        clear hb23 q0 q1
        obtain ⟨q0, q1⟩ := box2 P23.out
        generalize distOfI (z : Int) L s t = d at *
        generalize hV : onL (z : Int) L s t = V at *
        generalize hPP : pathL (z : Int) L s t = PP at *
        clear hV
        go_wp2_with fail
        clear q0 q1
        go_loopw [8] (fun i wr => ∃ j : Nat, j ≤ z ∧ i = .int .i64 j ∧ Bl w23 wr) (fun i _ => z - (intOf i).toNat)
        case atStart => exact ⟨0, by omega, rfl, Bl.refl _⟩
        case round =>
          obtain ⟨j, hj, rfl, hbl⟩ := hrel
          have hgb := P23.out.trans_ hbl
          obtain ⟨q0, q1⟩ := box2 hgb
          by_cases hlt : j < z
          · have i1 : (j : Int) < (z : Int) := by omega
            have HM := Lib.hid (MEM.out j ⟨by omega, i1⟩)
            have D1 := Lib.hid (distOfI_bounds (N := z) (s := s) (t := j) (L := L))
            have D2 := Lib.hid (distOfI_bounds (N := z) (s := j) (t := t) (L := L))
            go_wp2_with fail
            refine (implDistOf_any z s j A' l c' L HL.out hlc _ (by omega) (HA.out.bl hgb)).mono ?_
            rintro e w8 ⟨rfl, hb8⟩
            have P8 := Lib.hid (hgb.trans_ hb8)
            clear q0 q1
            obtain ⟨q0, q1⟩ := box2 P8.out
            go_wp2_with fail
            refine (implDistOf_any z j t A' l c' L HL.out hlc _ (by omega) (HA.out.bl P8.out)).mono ?_
            rintro e w9 ⟨rfl, hb9⟩
            have Q9 := Lib.hid (hbl.trans_ (hb8.trans_ hb9))
            clear hb8 hb9 q0 q1
            go_wp2_with fail
            refine (hasL_any A2 c2 V k HK.out j _ (by omega) (I23.out.bl Q9.out)).mono ?_
            rintro e w10 ⟨rfl, hb10⟩
            have QQ := Lib.hid (Q9.out.trans_ hb10)
            rw [show decide ((j : Int) ∈ V) = decide (0 ≤ distOfI z L s j ∧ 0 ≤ distOfI z L j t ∧ distOfI z L s j + distOfI z L j t = d) from by rw [decide_eq_decide]; exact HM.out]
            have d1 := D1.out
            have d2 := D2.out
            generalize distOfI (z : Int) L s j = a at *
            generalize distOfI (z : Int) L j t = b at *
            have j1 : (0 : Int) ≤ (j : Int) := by omega
            have a1 : IntKind.i64.wrap (a + b) = a + b := IntWalk.i64_in _ (by omega)
            clear hb10
            by_cases e1 : 0 ≤ a
            · have b1 : decide (0 ≤ a) = true := by simpa using e1
              by_cases e2 : 0 ≤ b
              · have b2 : decide (0 ≤ b) = true := by simpa using e2
                by_cases e3 : a + b = d
                · have b3 : (a + b == d) = true := by simpa using e3
                  rw [show decide (0 ≤ a ∧ 0 ≤ b ∧ a + b = d) = true from by simp only [decide_eq_true_eq]; omega]
                  go_wp2
                  go_roundw
                  case rel => exact ⟨j + 1, by omega, by go_num, QQ.out⟩
                  case measure => simp [intOf]; omega
                · have b3 : (a + b == d) = false := by simpa using e3
                  rw [show decide (0 ≤ a ∧ 0 ≤ b ∧ a + b = d) = false from by simp only [decide_eq_false_iff_not]; omega]
                  go_wp2
                  go_roundw
                  case rel => exact ⟨j + 1, by omega, by go_num, QQ.out⟩
                  case measure => simp [intOf]; omega
              · have b2 : decide (0 ≤ b) = false := by simpa using e2
                rw [show decide (0 ≤ a ∧ 0 ≤ b ∧ a + b = d) = false from by simp only [decide_eq_false_iff_not]; omega]
                go_wp2
                go_roundw
                case rel => exact ⟨j + 1, by omega, by go_num, QQ.out⟩
                case measure => simp [intOf]; omega
            · have b1 : decide (0 ≤ a) = false := by simpa using e1
              rw [show decide (0 ≤ a ∧ 0 ≤ b ∧ a + b = d) = false from by simp only [decide_eq_false_iff_not]; omega]
              go_wp2
              go_roundw
              case rel => exact ⟨j + 1, by omega, by go_num, QQ.out⟩
              case measure => simp [intOf]; omega
          · obtain rfl : j = z := by omega
            have IV := Lib.hid (I23.out.bl hbl)
            go_wp2_with fail
            refine (implPathOf_any j s t A' l c' L HL.out hlc _ (by omega) (HA.out.bl hgb)).mono ?_
            rintro e w8 ⟨v8, rfl, hv8, hb8⟩
            rw [hPP] at hv8 ⊢
            obtain ⟨A8, c8, rfl, -, hi8, -, -⟩ := OwnN.shape hv8
            obtain ⟨m8, hm8⟩ : ∃ m8, m8 = PP.length := ⟨_, rfl⟩
            have hm820 : m8 ≤ 1048576 := by rw [hm8]; exact PL.out
            rw [← hm8]
            rw [← hm8] at SOME
            have HM8 := Lib.hid hm8
            have I8 := Lib.hid hi8
            have P8 := Lib.hid (hgb.trans_ hb8)
            have J8 := Lib.hid (IV.out.bl hb8)
            rw [← HK.out] at SOME
            clear hv8 hi8 hm8 hb8 q0 q1 hPP
            have bs : (decide (0 < m8) == decide (0 < k)) = true := by rw [SOME.out]; simp
            go_wp2_with fail
            go_loopw [13] (fun i wr => ∃ q : Nat, q ≤ m8 ∧ i = .int .i64 q ∧ Bl w8 wr) (fun i _ => m8 - (intOf i).toNat)
            case atStart => exact ⟨0, by omega, rfl, Bl.refl _⟩
            case round =>
              obtain ⟨q, hq, rfl, hbl⟩ := hrel
              by_cases hlt : q < m8
              · have hql : q < PP.length := by have := HM8.out; omega
                obtain ⟨g1, o1, rfl, hg1, hc1⟩ := (I8.out.bl hbl).cell (by omega)
                have p1 := hc1 q hql
                clear hc1
                have HM := Lib.hid (PON.out _ (List.getElem_mem hql))
                generalize PP[q] = x at p1 HM
                have i1 : (0 : Int) ≤ (q : Int) := by omega
                have i2 : (q : Int) < (m8 : Int) := by omega
                go_wp2_with fail
                refine (hasL_any A2 c2 V k HK.out x _ (by omega) (J8.out.bl hbl)).mono ?_
                rintro e w10 ⟨rfl, hb10⟩
                rw [show decide (x ∈ V) = true from by simpa using HM.out]
                go_wp2
                go_roundw
                case rel => exact ⟨q + 1, by omega, by go_num, hbl.trans_ hb10⟩
                case measure => simp [intOf]; omega
              · obtain rfl : q = m8 := by omega
                go_wp2
                go_ret
                exact ⟨ret_bool (by first | exact bs | simp), B1.out.trans_ (P8.out.trans_ hbl)⟩

end Go.Proofs.Ytdbjcojlcddhdaa
