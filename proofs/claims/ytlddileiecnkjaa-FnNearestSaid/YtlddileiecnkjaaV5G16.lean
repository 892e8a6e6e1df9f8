/-
  What is proved here: the program's nearest of some places; the reader of a code hands out numbers now and then outside of bounds, and nodes; two cells in a block of their own; a graph that is put together arc by arc. No conditions beyond those that each theorem states.
-/
import Derived.Test.YtlddileiecnkjaaV5G13
import Derived.Test.YtlddileiecnkjaaV5G12
import Derived.Test.YtlddileiecnkjaaV5MXI1
import Derived.Test.YtlddileiecnkjaaV5RB
import Derived.Test.YtlddileiecnkjaaV5G04
set_option linter.unusedSimpArgs false
set_option linter.unusedVariables false
namespace Go.Proofs.Ytlddileiecnkjaa
open Go.RowKit Go.Shelf
attribute [local go_sem] Oper.semAt_some

/-- What the rounds keep: the items that were taken, the places, and how many are wanted. -/
structure NI (wB : World) (nb pb zb : Nat) (z : Int) (A2 : Option Addr) (k c2 : Nat) (V : List Int) (M : List It) (A1 : Option Addr) (c1 : Nat) (W : World) : Prop where
  box : W.cell? ⟨nb, 0, none⟩ = some (.slice A1 M.length c1)
  fr : W.frozen? ⟨nb, 0, none⟩ = false
  own : OwnI W (nb + 1) (.slice A1 M.length c1) M
  pl : W.cell? ⟨pb, 0, none⟩ = some (.slice A2 k c2)
  kz : W.cell? ⟨zb, 0, none⟩ = some (.int .i64 z)
  ints : IntsAt W W.heap.size A2 V
  pk : ∀ g, 0 < V.length → blockOf A2 = some g → W.heap[g]? = wB.heap[g]?
def nK (nb pb zb : Nat) (A2 : Option Addr) (V : List Int) (A1 : Option Addr) (i : Nat) : Prop := i = nb ∨ i = pb ∨ i = zb ∨ blockOf A1 = some i ∨ (0 < V.length ∧ blockOf A2 = some i)
section
variable {wB : World} {nb pb zb : Nat} {z : Int} {A2 : Option Addr} {k c2 : Nat} {V : List Int} {M : List It} {A1 : Option Addr} {c1 : Nat} {W W' : World}
theorem NI.lt (h : NI wB nb pb zb z A2 k c2 V M A1 c1 W) : ∀ i, nK nb pb zb A2 V A1 i → i < W.heap.size := by
  rintro i (e | e | e | e | ⟨h0, e⟩)
  · rw [e]; exact World.block_lt_of_cell? _ _ h.box
  · rw [e]; exact World.block_lt_of_cell? _ _ h.pl
  · rw [e]; exact World.block_lt_of_cell? _ _ h.kz
  · exact (Owns.lt (show Owns _ _ _ _ _ _ _ from h.own) i (by rw [ownBlock_slice]; exact e)).2
  · obtain ⟨g, off, rfl, hg, -⟩ := h.ints.cell h0
    have : g = i := by simpa [blockOf] using e
    omega
theorem NI.turn (h : NI wB nb pb zb z A2 k c2 V M A1 c1 W) {S : Nat → Prop} (t : Turn S W W') (hS : ∀ i, nK nb pb zb A2 V A1 i → ¬ S i) : NI wB nb pb zb z A2 k c2 V M A1 c1 W' := by
  have l1 := World.block_lt_of_cell? _ _ h.box
  have l2 := World.block_lt_of_cell? _ _ h.pl
  have l3 := World.block_lt_of_cell? _ _ h.kz
  refine ⟨(t.cells l1 (hS _ (.inl rfl)) 0).1.trans h.box, (t.cells l1 (hS _ (.inl rfl)) 0).2.trans h.fr, Owns.turn (show Owns _ _ _ _ _ _ _ from h.own) t (fun g hg => hS g (.inr (.inr (.inr (.inl (by rw [ownBlock_slice] at hg; exact hg)))))),
    (t.cell l2 (hS _ (.inr (.inl rfl))) 0).trans h.pl, (t.cell l3 (hS _ (.inr (.inr (.inl rfl)))) 0).trans h.kz, ?_, fun g h0 e => (t.block g (h.lt g (.inr (.inr (.inr (.inr ⟨h0, e⟩))))) (hS g (.inr (.inr (.inr (.inr ⟨h0, e⟩)))))).trans (h.pk g h0 e)⟩
  exact CellsAt.more (intsAt_turn h.ints (Nat.le_refl _) t (fun h0 g hg => hS g (.inr (.inr (.inr (.inr ⟨h0, hg⟩)))))) t.size
theorem NI.bl (h : NI wB nb pb zb z A2 k c2 V M A1 c1 W) (hb : Bl W W') : NI wB nb pb zb z A2 k c2 V M A1 c1 W' :=
  h.turn (Turn.of_bl (S := fun _ => False) hb) (fun _ _ h => h)
end
/-- How the rounds are left. -/
def NStop (wB : World) (nb pb zb : Nat) (z : Int) (A2 : Option Addr) (k c2 : Nat) (V : List Int) (co : Code) (pre' : List It) (K : Nat → Prop) (W' : World) : Prop :=
  co = .exit 0 ∧ ∃ (pre : List It) (x : It) (A1 : Option Addr) (c1 : Nat), pre' = pre ++ [x] ∧ ((pre.filter (inV V)).length : Int) = z ∧ (∀ i, K i ↔ nK nb pb zb A2 V A1 i) ∧ NI wB nb pb zb z A2 k c2 V (pre.filter (inV V)) A1 c1 W'

set_option maxRecDepth 100000 in
set_option maxHeartbeats 16000000 in
theorem implNearest_any (N s : Int) (A : Option Addr) (n c : Nat) (L : List Arc3) (hn : n = L.length) (hc : n ≤ c) (A2 : Option Addr) (k c2 : Nat) (V : List Int) (hk : k = V.length) (z : Int) (w : World) (hm : n ≤ 1048576) (hkm : k ≤ 1048576)
    (H1 : ArcsAt w w.heap.size A L) (H2 : IntsAt w w.heap.size A2 V) (hap : 0 < L.length → 0 < V.length → ∀ g, blockOf A = some g → blockOf A2 ≠ some g) :
    Calls Try.prog 40 #[.agg #[.int .i64 N, .slice A n c], .int .i64 s, .slice A2 k c2, .int .i64 z] w (ItemsNew (nrL N L s V z) w) := by
  obtain ⟨i0, hi, hy0, hy1, hy2⟩ := info_parts infoItem
  have J0 := Lib.hid hi
  have J1 := Lib.hid hy0
  have J2 := Lib.hid hy1
  have J3 := Lib.hid hy2
  clear hi hy0 hy1 hy2
  have K1 := Lib.hid H1
  have K2 := Lib.hid H2
  have HN := Lib.hid hn
  have HKL := Lib.hid hk
  have HAP := Lib.hid hap
  clear H1 H2 hn hk hap
  have nil_ : ∀ wx, Bl w wx → nrL N L s V z = [] → ItemsNew (nrL N L s V z) w (.returned (.slice none 0 0)) wx := fun wx hb e => by
    rw [e]; exact ⟨_, rfl, Owns.nil_ _ _ _ _, hb⟩
  have NIL := Lib.hid nil_
  clear nil_
  obtain ⟨w0, hw0⟩ : ∃ x, x = ((w.alloc (.cells #[.int .i64 N, .slice A n c] 33)).alloc (.cells #[.slice A2 k c2] 24)).alloc (.cells #[.int .i64 z] 2) := ⟨_, rfl⟩
  have B0 := Lib.hid (show Bl w w0 from by rw [hw0]; exact (((Bl.refl w).alloc_ _).alloc_ _).alloc_ _)
  have s0 : w0.heap.size = w.heap.size + 1 + 1 + 1 := by rw [hw0]; simp
  have BX := Lib.hid (show ∀ wx, Bl w0 wx → wx.cell? ⟨w.heap.size, 0, none⟩ = some (.int .i64 N) ∧ wx.cell? ⟨w.heap.size, 1, none⟩ = some (.slice A n c) ∧ wx.cell? ⟨w.heap.size + 1, 0, none⟩ = some (.slice A2 k c2) ∧ wx.cell? ⟨w.heap.size + 1 + 1, 0, none⟩ = some (.int .i64 z) from fun wx hb => by
    obtain ⟨e1, -⟩ := bcell hb
    refine ⟨?_, ?_, ?_, ?_⟩
    · rw [e1 _ _ (by omega), hw0]; simp [go_sem]
    · rw [e1 _ _ (by omega), hw0]; simp [go_sem]
    · rw [e1 _ _ (by omega), hw0]; simp [go_sem]
    · rw [e1 _ _ (by omega), hw0]; simp [go_sem])
  cases hh : has1 N L s with
  | false =>
    have HH := Lib.hid hh
    have HM := Lib.hid (show nrL N L s V z = [] from nrL_no (by unfold nrB; rw [hh]; rfl))
    clear hh
    go_enter Try.func40, Try.ntmps40
    go_wp2_with fail
    rw [← hw0]
    refine (hasNodes_1 N s A n c L HN.out (w.heap.size + 3) 1 _ (by omega) (K1.out.bl (B0.out.alloc_ _)) (by simp; omega) (by rw [show w.heap.size + 3 = w0.heap.size from by omega]; simp [go_sem])).mono ?_
    rintro e w1 ⟨rfl, hb1⟩
    have I1 := Lib.hid ((Bl.alloc_ (Bl.refl w0) _).trans_ hb1)
    rw [HH.out]
    clear hb1 hw0
    go_wp2
    go_ret
    exact NIL.out _ (B0.out.trans_ I1.out) HM.out
  | true =>
    have HH := Lib.hid hh
    obtain ⟨ho, hs0, hs1⟩ := has1_of hh
    have HO := Lib.hid ho
    clear hh ho
    cases hu : hasUB N L V with
    | false =>
      have HU := Lib.hid hu
      have HM := Lib.hid (show nrL N L s V z = [] from nrL_no (by unfold nrB; rw [hu]; simp))
      clear hu
      go_enter Try.func40, Try.ntmps40
      go_wp2_with fail
      rw [← hw0]
      refine (hasNodes_1 N s A n c L HN.out (w.heap.size + 3) 1 _ (by omega) (K1.out.bl (B0.out.alloc_ _)) (by simp; omega) (by rw [show w.heap.size + 3 = w0.heap.size from by omega]; simp [go_sem])).mono ?_
      rintro e w1 ⟨rfl, hb1⟩
      have I1 := Lib.hid ((Bl.alloc_ (Bl.refl w0) _).trans_ hb1)
      rw [HH.out]
      obtain ⟨x0, x1, x2, x3⟩ := BX.out _ I1.out
      clear hb1 hw0
      go_wp2_with fail
      refine (hasUnlike_any N A n c L HN.out A2 k c2 V HKL.out _ (by omega) hkm (K1.out.bl (B0.out.trans_ I1.out)) (K2.out.bl (B0.out.trans_ I1.out))).mono ?_
      rintro e w2 ⟨rfl, hb2⟩
      have I2 := Lib.hid (I1.out.trans_ hb2)
      rw [HU.out]
      clear hb2 x0 x1 x2 x3
      go_wp2
      go_ret
      exact NIL.out _ (B0.out.trans_ I2.out) HM.out
    | true =>
      have HU := Lib.hid hu
      obtain ⟨-, hin, hnd⟩ := hasUB_iff.1 hu
      have HIN := Lib.hid hin
      have HND := Lib.hid hnd
      clear hu hin hnd
      by_cases hz : z < 0
      · have HM := Lib.hid (show nrL N L s V z = [] from nrL_no (by unfold nrB; rw [show decide (0 ≤ z) = false from by simpa using hz]; simp))
        have bz : decide (z < 0) = true := by simpa using hz
        go_enter Try.func40, Try.ntmps40
        go_wp2_with fail
        rw [← hw0]
        refine (hasNodes_1 N s A n c L HN.out (w.heap.size + 3) 1 _ (by omega) (K1.out.bl (B0.out.alloc_ _)) (by simp; omega) (by rw [show w.heap.size + 3 = w0.heap.size from by omega]; simp [go_sem])).mono ?_
        rintro e w1 ⟨rfl, hb1⟩
        have I1 := Lib.hid ((Bl.alloc_ (Bl.refl w0) _).trans_ hb1)
        rw [HH.out]
        obtain ⟨x0, x1, x2, x3⟩ := BX.out _ I1.out
        clear hb1 hw0
        go_wp2_with fail
        refine (hasUnlike_any N A n c L HN.out A2 k c2 V HKL.out _ (by omega) hkm (K1.out.bl (B0.out.trans_ I1.out)) (K2.out.bl (B0.out.trans_ I1.out))).mono ?_
        rintro e w2 ⟨rfl, hb2⟩
        have I2 := Lib.hid (I1.out.trans_ hb2)
        rw [HU.out]
        obtain ⟨x0, x1, x2, x3⟩ := BX.out _ I2.out
        clear hb2
        go_wp2
        go_ret
        exact NIL.out _ (B0.out.trans_ I2.out) HM.out
      · have hz0 : 0 ≤ z := by omega
        have bz : decide (z < 0) = false := by simpa using hz
        have HB := Lib.hid (show nrB N L s V z = true from by unfold nrB; rw [HH.out, HU.out]; simpa using hz0)
        clear hz
        refine (callsIn_wide (n := 0)).1 ?_
        refine callsIn_of_wp_marks Try.func40 rfl trivial ?_ rfl
        simp only [Try.ntmps40, List.size_toArray, List.length_cons, List.length_nil, Nat.reduceAdd, Nat.reduceSub, Array.replicate_succ, Array.replicate_zero, List.push_toArray, List.append_toArray, List.nil_append, List.cons_append]
        gi_wp2_with fail
        rw [← hw0]
        refine ⟨trivial, rfl, CallsIn.mono (callsIn_wide.2 (hasNodes_1 N s A n c L HN.out (w.heap.size + 3) 1 _ (by omega) (K1.out.bl (B0.out.alloc_ _)) (by simp; omega) (by rw [show w.heap.size + 3 = w0.heap.size from by omega]; simp [go_sem]))) ?_⟩
        rintro e w1 ⟨rfl, hb1⟩
        have I1 := Lib.hid ((Bl.alloc_ (Bl.refl w0) _).trans_ hb1)
        rw [HH.out]
        obtain ⟨x0, x1, x2, x3⟩ := BX.out _ I1.out
        clear hb1 hw0
        gi_wp2_with fail
        refine ⟨trivial, rfl, CallsIn.mono (callsIn_wide.2 (hasUnlike_any N A n c L HN.out A2 k c2 V HKL.out _ (by omega) hkm (K1.out.bl (B0.out.trans_ I1.out)) (K2.out.bl (B0.out.trans_ I1.out)))) ?_⟩
        rintro e X ⟨rfl, hb2⟩
        have I2 := Lib.hid (I1.out.trans_ hb2)
        rw [HU.out]
        obtain ⟨x0, x1, x2, x3⟩ := BX.out _ I2.out
        have sX := I2.out.size
        have l0 : w.heap.size < X.heap.size := by omega
        have l1 : w.heap.size + 1 < X.heap.size := by omega
        have l2 : w.heap.size + 1 + 1 < X.heap.size := by omega
        clear hb2
        gi_wp2_with fail
        generalize hwc : World.alloc X _ = wc
        have BC := Lib.hid (show Bl X wc from by rw [← hwc]; exact (Bl.refl X).alloc_ _)
        have sc : wc.heap.size = X.heap.size + 1 := by rw [← hwc]; simp
        have c9 : wc.cell? ⟨X.heap.size, 0, none⟩ = some (.slice none 0 0) := by rw [← hwc]; simp [go_sem]
        have f9 : wc.frozen? ⟨X.heap.size, 0, none⟩ = false := by rw [← hwc]; simp [go_sem]
        clear hwc
        refine ⟨trivial, rfl, CallsIn.mono (callsIn_wide.2 (nearestFrom_any N s A n c _)) ?_⟩
        rintro e w3 ⟨rfl, hw3⟩
        have hs3 : w3.heap.size = wc.heap.size + 4 := by rw [hw3]; simp
        have hb3 : Bl wc w3 := by rw [hw3]; exact ((((Bl.refl wc).alloc_ _).alloc_ _).alloc_ _).alloc_ _
        have BW3 := Lib.hid (show Bl w w3 from B0.out.trans_ (I2.out.trans_ (BC.out.trans_ hb3)))
        have hin : NIn w3 (wc.heap.size + 3) (wc.heap.size + 2) (wc.heap.size + 1) N s A n c L := by
          refine ⟨?_, ?_, ?_, ?_, K1.out.bl BW3.out⟩ <;> (rw [hw3]; simp [go_sem])
        rw [sc] at hin
        have hN3 : NI w3 X.heap.size (w.heap.size + 1) (w.heap.size + 1 + 1) z A2 k c2 V [] none 0 w3 := by
          obtain ⟨-, -, d2, d3⟩ := BX.out _ (I2.out.trans_ (BC.out.trans_ hb3))
          exact ⟨((bcell hb3).1 _ _ (by omega)).trans c9, ((bcell hb3).2 _ _ (by omega)).trans f9, Owns.nil_ _ _ _ _, d2, d3, K2.out.bl BW3.out, fun _ _ _ => rfl⟩
        clear hw3 x0 x1 x2 x3 c9 f9
        gi_wp2_with fail
        refine wpIn_range (gf := 150) (lb := #[.pointer (some ⟨X.heap.size + 1 + 3, 0, none⟩), .pointer (some ⟨X.heap.size + 1 + 2, 0, none⟩), .pointer (some ⟨X.heap.size + 1 + 1, 0, none⟩)]) ?e1 ?e2
          (near_stops N s A n c (X.heap.size + 1 + 3) (X.heap.size + 1 + 2) (X.heap.size + 1 + 1) L HN.out hc HO.out hs0 hs1 w3 hin) (Bl.refl _) (fun i hi => inBlocks_lt hin hi) ?e3
          (fun pre K W' => ∃ A1 c1, (∀ i, K i ↔ nK X.heap.size (w.heap.size + 1) (w.heap.size + 1 + 1) A2 V A1 i) ∧ NI w3 X.heap.size (w.heap.size + 1) (w.heap.size + 1 + 1) z A2 k c2 V (pre.filter (inV V)) A1 c1 W' ∧ Hid (((pre.filter (inV V)).length : Int) ≤ z))
          (NStop w3 X.heap.size (w.heap.size + 1) (w.heap.size + 1 + 1) z A2 k c2 V)
          (fun pre x a K W' => ∃ (xb : Nat) (A1 : Option Addr) (c1 : Nat), ∃ y0 y1 y2 y3 y4 y5 y8 y11 y12 y13 y14 y15 y16 y17 y18 y19 y20 y21 y22 y23 y24 y25 y26 y27 y28 y29 y30 y31 y32 y33 y34 y35 y36 y37 y38 y39 y40 y41 y42 : Value, (∀ i, K i ↔ (nK X.heap.size (w.heap.size + 1) (w.heap.size + 1 + 1) A2 V A1 i ∨ i = xb)) ∧ NI w3 X.heap.size (w.heap.size + 1) (w.heap.size + 1 + 1) z A2 k c2 V (pre.filter (inV V)) A1 c1 W' ∧ Hid (((pre.filter (inV V)).length : Int) ≤ z) ∧ ((xb ≠ X.heap.size ∧ blockOf A1 ≠ some xb) ∧ W'.cell? ⟨xb, 0, none⟩ = some (.int .i64 x.1) ∧ W'.cell? ⟨xb, 1, none⟩ = some (.int .i64 x.2)) ∧
            a = { tmps := #[y0, y1, y2, y3, y4, y5, .pointer (some ⟨w.heap.size + 1, 0, none⟩), .pointer (some ⟨w.heap.size + 1 + 1, 0, none⟩), y8, .pointer (some ⟨X.heap.size, 0, none⟩), .pointer (some ⟨xb, 0, none⟩), y11, y12, y13, y14, y15, y16, y17, y18, y19, y20, y21, y22, y23, y24, y25, y26, y27, y28, y29, y30, y31, y32, y33, y34, y35, y36, y37, y38, y39, y40, y41, y42], defers := [] })
          (fun i => nK X.heap.size (w.heap.size + 1) (w.heap.size + 1 + 1) A2 V none i) ?hK0 ?hI ?hIx ?hM ?hlt ⟨none, 0, fun i => Iff.rfl, hN3, Lib.hid (by simpa using hz0)⟩ ?assign ?body ?done ?stop
        case e1 => rfl
        case e2 => exact enters_of Try.func150 (by kernel_rfl) rfl
        case e3 => exact fun x => rfl
        case hK0 =>
          intro i hK hi
          have a2 : ∀ g, blockOf A = some g → 0 < L.length → g < w.heap.size := fun g e h0 => by
            obtain ⟨g', off, rfl, hg, -⟩ := K1.out h0
            obtain rfl : g' = g := by simpa [blockOf] using e
            exact hg
          have a3 : ∀ g, blockOf A2 = some g → 0 < V.length → g < w.heap.size := fun g e h0 => by
            obtain ⟨g', off, rfl, hg, -⟩ := K2.out.cell h0
            obtain rfl : g' = g := by simpa [blockOf] using e
            exact hg
          rcases hK with e | e | e | e | ⟨e0, e⟩ <;> rcases hi with h | h | h | ⟨hl, h⟩
          all_goals first
            | omega
            | (have := a2 i h hl; omega)
            | (have := a3 i e e0; omega)
            | exact HAP.out hl e0 i h e
            | simp [blockOf] at e
        case hI =>
          rintro pre K A' B' ⟨A1, c1, hk, hN, hle⟩ ht
          exact ⟨A1, c1, hk, hN.turn ht (fun i hi h => h ((hk i).2 hi)), hle⟩
        case hIx =>
          rintro co pre' K A' B' ⟨e, pre, x, A1, c1, e2, hx, hk, hN⟩ ht
          exact ⟨e, pre, x, A1, c1, e2, hx, hk, hN.turn ht (fun i hi h => h ((hk i).2 hi))⟩
        case hM =>
          rintro pre x a K A' B' ⟨xb, A1, c1, y0, y1, y2, y3, y4, y5, y8, y11, y12, y13, y14, y15, y16, y17, y18, y19, y20, y21, y22, y23, y24, y25, y26, y27, y28, y29, y30, y31, y32, y33, y34, y35, y36, y37, y38, y39, y40, y41, y42, hk, hN, hle, ⟨hne, hc0, hc1⟩, he⟩ ht
          have hx := World.block_lt_of_cell? _ _ hc0
          have hs := fun o => ht.cell hx (fun h => h ((hk _).2 (.inr rfl))) o
          exact ⟨xb, A1, c1, y0, y1, y2, y3, y4, y5, y8, y11, y12, y13, y14, y15, y16, y17, y18, y19, y20, y21, y22, y23, y24, y25, y26, y27, y28, y29, y30, y31, y32, y33, y34, y35, y36, y37, y38, y39, y40, y41, y42, hk, hN.turn ht (fun i hi h => h ((hk i).2 (.inl hi))), hle, ⟨hne, (hs 0).trans hc0, (hs 1).trans hc1⟩, he⟩
        case hlt =>
          rintro pre K A' ⟨A1, c1, hk, hN, -⟩ i hi
          exact hN.lt i ((hk i).1 hi)
        case assign =>
          rintro l pre ⟨x, y⟩ K W R ⟨A1, c1, hk, hN, hle⟩ hpre hR
          have HK := Lib.hid hk
          have HNI := Lib.hid hN
          have HRR9 := Lib.hid hR
          have q1 := World.block_lt_of_cell? _ _ hN.box
          have q3 := Lib.hid (fun i (h : blockOf A1 = some i) => (Owns.lt (show Owns _ _ _ _ _ _ _ from hN.own) i (by rw [ownBlock_slice]; exact h)).2)
          clear hk hN hpre hR hs3 hb3 hin hN3
          dsimp only [encI]
          gi_wp2_with fail
          exact HRR9.out _ (fun i => nK X.heap.size (w.heap.size + 1) (w.heap.size + 1 + 1) A2 V A1 i ∨ i = W.heap.size) _ ⟨Turn.of_bl (by repeat' (first | exact Bl.refl _ | with_reducible assumption | with_reducible refine Bl.drew_ ?_ | with_reducible refine Bl.drewN_ ?_ _ | with_reducible refine Bl.alloc_ ?_ _ | with_reducible refine Bl.trans_ ?_ (by assumption) | with_reducible refine Bl.trans_ ?_ (And.left (by assumption)))), fun i hi => hi.imp (fun h => (HK.out i).2 h) (fun h => by rw [h]; exact Nat.le_refl _)⟩ ⟨W.heap.size, A1, c1, _, _, _, _, _, _, _, _, _, _, _, _, _, _, _, _, _, _, _, _, _, _, _, _, _, _, _, _, _, _, _, _, _, _, _, _, _, _, _, fun i => Iff.rfl, HNI.out.bl (by repeat' (first | exact Bl.refl _ | with_reducible assumption | with_reducible refine Bl.drew_ ?_ | with_reducible refine Bl.drewN_ ?_ _ | with_reducible refine Bl.alloc_ ?_ _ | with_reducible refine Bl.trans_ ?_ (by assumption) | with_reducible refine Bl.trans_ ?_ (And.left (by assumption)))), hle, ⟨⟨by omega, fun e => by have := q3.out _ e; omega⟩, by simp [go_sem], by simp [go_sem]⟩, rfl⟩
        case body =>
          rintro l pre ⟨x, y⟩ a₁ K W ⟨xb, A1, c1, y0, y1, y2, y3, y4, y5, y8, y11, y12, y13, y14, y15, y16, y17, y18, y19, y20, y21, y22, y23, y24, y25, y26, y27, y28, y29, y30, y31, y32, y33, y34, y35, y36, y37, y38, y39, y40, y41, y42, hk, hN, hle, ⟨⟨hne1, hne2⟩, hc0, hc1⟩, rfl⟩ ⟨Z, hZ⟩
          simp only at hc0 hc1
          have HK := Lib.hid hk
          have hx0 := World.block_lt_of_cell? _ _ hc0
          obtain ⟨M, hM⟩ : ∃ M, M = pre.filter (inV V) := ⟨_, rfl⟩
          have HMM := Lib.hid hM
          rw [← hM] at hN hle
          have HNI := Lib.hid hN
          obtain ⟨m, hm9⟩ : ∃ m, m = M.length := ⟨_, rfl⟩
          have HM9 := Lib.hid hm9
          have p0 := hN.box
          rw [← hm9] at p0
          have p1 := hN.fr
          have p2 := hN.pl
          have p3 := hN.kz
          have hle' : (m : Int) ≤ z := by rw [hm9]; exact hle.out
          have hmk : m ≤ 1048576 := by
            have h1 := congrArg List.length (nr_of_near HO.out HND.out HIN.out hZ)
            have h2 := nrK_len (distL N L s) V V.length
            have h3 := HKL.out
            rw [List.filter_append, List.length_append] at h1
            unfold nrAll at h1
            rw [hm9, hM]
            omega
          clear hk hN hle hs3 hb3 hin hN3 hZ hM hm9
          by_cases hbr : (m : Int) = z
          · have hbd : ((m : Int) == z) = true := by simpa using hbr
            have HBR := Lib.hid hbr
            clear hbr
            gi_wp2_with fail
            refine ⟨fun i => nK X.heap.size (w.heap.size + 1) (w.heap.size + 1 + 1) A2 V A1 i, ⟨Turn.refl K W, fun i hi => .inl ((HK.out i).2 (.inl hi))⟩, ⟨rfl, pre, _, A1, c1, rfl, by rw [← HMM.out, ← HM9.out]; exact HBR.out, fun i => Iff.rfl, by rw [← HMM.out]; exact HNI.out⟩⟩
          · have hbd : ((m : Int) == z) = false := by simpa using hbr
            have hlt9 : (m : Int) + 1 ≤ z := by omega
            clear hbr
            gi_wp2_with fail
            refine ⟨trivial, rfl, CallsIn.mono (callsIn_wide.2 (containsN_any A2 k c2 V HKL.out y _ hkm HNI.out.ints)) ?_⟩
            rintro e w5 ⟨rfl, hb5⟩
            have B5 := Lib.hid hb5
            by_cases hy : y ∈ V
            · have hyb : decide (y ∈ V) = true := by simpa using hy
              have HF := Lib.hid (show (pre ++ [(x, y)]).filter (inV V) = M ++ [(x, y)] from by rw [List.filter_append, ← HMM.out]; simp [inV, hy])
              rw [hyb]
              have N5 := Lib.hid (HNI.out.bl hb5)
              have b0 := N5.out.box
              rw [← HM9.out] at b0
              have b1 := N5.out.fr
              have r0 := ((bcell hb5).1 _ _ hx0).trans hc0
              have r1 := ((bcell hb5).1 _ _ hx0).trans hc1
              have s5 := hb5.size
              have hb5x := World.block_lt_of_cell? _ _ b0
              have OW := Lib.hid (show w5.ownsRow (X.heap.size + 1) 68 2 (.slice A1 m c1) m (cs2 M) from by have h := N5.out.own; rw [← HM9.out] at h; have h2 : Owns 68 2 w5 (X.heap.size + 1) (.slice A1 m c1) M.length (cs2 M) := h; rw [← HM9.out] at h2; exact h2)
              clear hb5 hy hyb p0 p1 p2 p3 hc0 hc1
              gi_wp2_with (refine wpListIn_append_any _ rfl (.tmp 38) (.tmp 40) 59 rfl (X.heap.size + 1) 68 i0 _ 2 16 Try.underlying59 J0.out J1.out J2.out J3.out rfl (by decide) (.slice A1 m c1) m (cs2 M) rfl (World.ownsRow.alloc OW.out _) (w5.heap.size + 1) (some ⟨w5.heap.size, 0, none⟩) 1 1 [.int .i64 x, .int .i64 y] rfl ?c0 ?c1 ?c3 ?c4 ?c5 ?_)
              case c0 =>
                refine ⟨rfl, fun _ => ⟨_, rfl, by show w5.heap.size < w5.heap.size + 1; omega, fun j u hj => ?_⟩⟩
                match j, hj with
                | 0, hj => simp at hj; subst hj; simp [Addr.add, go_sem]
                | 1, hj => simp at hj; subst hj; simp [Addr.add, go_sem]
                | (j + 2), hj => simp at hj
              case c1 =>
                intro u hu
                simp at hu
                rcases hu with rfl | rfl <;> rfl
              case c3 => unfold maxLen; omega
              case c4 => omega
              case c5 => first | omega | (simp; omega)
              intro v' w8 hown' hgrow hwh
              have O8 := Lib.hid (show OwnI w8 (X.heap.size + 1) v' (M ++ [(x, y)]) from by
                unfold OwnI Owns
                rw [cs2_append, List.length_append, ← HM9.out]
                exact hown')
              obtain ⟨A', c', hv', -⟩ := Owns.shape (show Owns _ _ _ _ _ _ _ from O8.out)
              obtain ⟨l', hl'⟩ : ∃ l', l' = (M ++ [(x, y)]).length := ⟨_, rfl⟩
              rw [← hl'] at hv'
              subst hv'
              rw [ownBlock_slice] at hgrow hwh
              rw [ownBlock_slice] at hwh
              have WH := Lib.hid (show blockOf A' = blockOf A1 ∨ blockOf A' = some (w5.heap.size + 1) from by simpa using hwh)
              have BAL := Lib.hid (show Bl w5 (w5.alloc (.cells #[.int .i64 x, .int .i64 y] 68)) from (Bl.refl w5).alloc_ _)
              have TG := Lib.hid (show Turn (fun i => blockOf A1 = some i) (w5.alloc (.cells #[.int .i64 x, .int .i64 y] 68)) w8 from Turn.of_grown hgrow (fun k e => e))
              have TW := Lib.hid (show Turn (fun i => blockOf A1 = some i) W w8 from (Turn.of_bl (S := fun i => blockOf A1 = some i) (B5.out.trans_ BAL.out)).trans TG.out (fun i _ e => e))
              have QB := Lib.hid (fun g (h : blockOf A1 = some g) => (Owns.lt (show Owns _ _ _ _ _ _ _ from HNI.out.own) g (by rw [ownBlock_slice]; exact h)).1)
              have QP := Lib.hid (HNI.out.lt)
              have nnb : ¬ blockOf A1 = some X.heap.size := fun e => by have := QB.out _ e; omega
              have c8 := (TW.out.cells (QP.out _ (.inl rfl)) nnb 0).1.trans HNI.out.box
              have f8 := (TW.out.cells (QP.out _ (.inl rfl)) nnb 0).2.trans HNI.out.fr
              have HL := Lib.hid hl'
              clear hown' hgrow hwh hl' b0 b1 r0 r1
              gi_wp2_with fail
              have TS : Turn (fun i => blockOf A1 = some i ∨ i = X.heap.size) W (w8.setCell ⟨X.heap.size, 0, none⟩ (.slice A' l' c')) := Turn.set (p := ⟨X.heap.size, 0, none⟩) ((Turn.refl (fun i => blockOf A1 = some i ∨ i = X.heap.size) W).trans TW.out (fun i _ e => .inl e)) (.inl (.inr rfl)) _
              have hplA : ∀ g, 0 < V.length → blockOf A2 = some g → g < w.heap.size := fun g h0 e => by
                obtain ⟨g', off, rfl, hg, -⟩ := K2.out.cell h0
                obtain rfl : g' = g := by simpa [blockOf] using e
                exact hg
              have nS : ∀ i, i < X.heap.size → ¬ (blockOf A1 = some i ∨ i = X.heap.size) := fun i hi h => by
                rcases h with h | h
                · have := QB.out _ h; omega
                · omega
              refine ⟨fun i => nK X.heap.size (w.heap.size + 1) (w.heap.size + 1 + 1) A2 V A' i, ⟨?_, fun i hi => ?_⟩, A', c', fun i => Iff.rfl, ?_, ?_⟩
              · refine ⟨TS.os, TS.tape, TS.output, TS.size, fun i hi hS => TS.block i hi (fun h => hS ((HK.out i).2 (.inl ?_)))⟩
                rcases h with h | h
                · exact .inr (.inr (.inr (.inl h)))
                · exact .inl h
              · rcases hi with h | h | h | h | h
                · exact .inl ((HK.out i).2 (.inl (.inl h)))
                · exact .inl ((HK.out i).2 (.inl (.inr (.inl h))))
                · exact .inl ((HK.out i).2 (.inl (.inr (.inr (.inl h)))))
                · rcases WH.out with e | e
                  · exact .inl ((HK.out i).2 (.inl (.inr (.inr (.inr (.inl (by rw [← e]; exact h)))))))
                  · rw [e] at h
                    injection h with h
                    exact .inr (by omega)
                · exact .inl ((HK.out i).2 (.inl (.inr (.inr (.inr (.inr h))))))
              · rw [HF.out]
                have hn := HNI.out
                refine ⟨?_, ?_, ?_, (TS.cell (QP.out _ (.inr (.inl rfl))) (nS _ (by omega)) 0).trans hn.pl, (TS.cell (QP.out _ (.inr (.inr (.inl rfl)))) (nS _ (by omega)) 0).trans hn.kz, ?_, fun g h0 e => ?_⟩
                · rw [← HL.out]
                  exact World.cell?_setCell_same _ _ _ c8
                · have := f8
                  simp [go_sem, this]
                · rw [← HL.out]
                  exact Owns.turn (show Owns _ _ _ _ _ _ _ from O8.out) (Turn.set (p := ⟨X.heap.size, 0, none⟩) (Turn.refl (fun i => i = X.heap.size) w8) (.inl rfl) _) (fun g hg h => by
                    have := (Owns.lt (show Owns _ _ _ _ _ _ _ from O8.out) g hg).1
                    omega)
                · exact CellsAt.more (intsAt_turn hn.ints (Nat.le_refl _) TS (fun h0 g hg => nS g (by have := hplA g h0 hg; omega))) TS.size
                · exact (TS.block g (QP.out _ (.inr (.inr (.inr (.inr ⟨h0, e⟩))))) (nS g (by have := hplA g h0 e; omega))).trans (hn.pk g h0 e)
              · rw [HF.out]
                exact Lib.hid (by rw [List.length_append, ← HM9.out]; simp; omega)
            · have hyb : decide (y ∈ V) = false := by simpa using hy
              have HF := Lib.hid (show (pre ++ [(x, y)]).filter (inV V) = M from by rw [List.filter_append, ← HMM.out]; simp [inV, hy])
              rw [hyb]
              clear hb5 hy hyb
              gi_wp2_with fail
              exact ⟨fun i => nK X.heap.size (w.heap.size + 1) (w.heap.size + 1 + 1) A2 V A1 i, ⟨Turn.of_bl B5.out, fun i hi => .inl ((HK.out i).2 (.inl hi))⟩, A1, c1, fun i => Iff.rfl, by rw [HF.out]; exact HNI.out.bl B5.out, by rw [HF.out]; exact Lib.hid (by rw [← HM9.out]; omega)⟩
        case done =>
          rintro D pre K W hD hall ⟨A1, c1, hk, hN, hle⟩ hT hKD hdef
          have EP := Lib.hid (show pre.filter (inV V) = nrL N L s V z from by
            have h := nr_of_near HO.out HND.out HIN.out hall
            rw [nrL_yes HB.out, ← h, List.take_of_length_le (by have := hle.out; omega)])
          have NXB : ¬ X.heap.size = D := fun h => hKD ((hk _).2 (.inl h.symm))
          have NAB : ∀ g, blockOf A1 = some g → ¬ g = D := fun g e h => hKD ((hk _).2 (.inr (.inr (.inr (.inl (by rw [← h]; exact e))))))
          rw [EP.out] at hN
          have HNI := Lib.hid hN
          have HD := Lib.hid hdef
          have T3 : Turn (fun i => w.heap.size ≤ i) w3 W := ⟨hT.os, hT.tape, hT.output, hT.size, fun i hi hS => by
            by_cases hp : 0 < V.length ∧ blockOf A2 = some i
            · exact hN.pk i hp.1 hp.2
            · refine hT.block i hi (fun h => ?_)
              rcases h with h | h | h | h | h
              · omega
              · omega
              · omega
              · simp [blockOf] at h
              · exact hp h⟩
          have BF := Lib.hid (show Bl w W from Turn.to_bl BW3.out T3 (fun i hi => hi))
          obtain ⟨R, hR⟩ : ∃ R, R = nrL N L s V z := ⟨_, rfl⟩
          rw [← hR] at HNI
          have p0 := HNI.out.box
          obtain ⟨m, hm9⟩ : ∃ m, m = R.length := ⟨_, rfl⟩
          rw [← hm9] at p0
          have HR := Lib.hid hR
          have HM9 := Lib.hid hm9
          have hbz : w.heap.size ≤ X.heap.size := by omega
          have hs0' : w.heap.size ≤ w3.heap.size := BW3.out.size
          clear hk hN hT hdef hs3 hb3 hin hN3 hR hm9 EP T3
          gi_wp2_with fail
          refine ⟨by simp, .inl ⟨_, _, rfl, run_takeDeferred HD.out, ?_⟩⟩
          refine ⟨.slice A1 m c1, by simp [results, Try.results40, go_sem], ?_⟩
          refine ⟨_, rfl, ?_, ?_⟩
          · rw [← HR.out, HM9.out]
            exact (show OwnI _ _ _ _ from Owns.turn (show Owns _ _ _ _ _ _ _ from HNI.out.own) (turn_put (fun i => i = D) _ (.deferred none) rfl) (fun g hg => NAB g (by rw [ownBlock_slice] at hg; exact hg))).low_ (by omega)
          · exact Turn.to_bl BF.out (turn_put (fun i => i = D) _ (.deferred none) rfl) (fun i hi => by rw [hi]; omega)
        case stop =>
          rintro D co pre' K W hD ⟨Z, hZ⟩ ⟨rfl, pre, x, A1, c1, rfl, hx, hk, hN⟩ hT hKD hdef
          refine wpIn_exit ?_
          have EP := Lib.hid (show pre.filter (inV V) = nrL N L s V z from by
            rw [nrL_yes HB.out]
            exact nr_part (Z := x :: Z) HO.out HND.out HIN.out (by simpa using hZ) (by omega))
          clear hZ hx
          have NXB : ¬ X.heap.size = D := fun h => hKD ((hk _).2 (.inl h.symm))
          have NAB : ∀ g, blockOf A1 = some g → ¬ g = D := fun g e h => hKD ((hk _).2 (.inr (.inr (.inr (.inl (by rw [← h]; exact e))))))
          rw [EP.out] at hN
          have HNI := Lib.hid hN
          have HD := Lib.hid hdef
          have T3 : Turn (fun i => w.heap.size ≤ i) w3 W := ⟨hT.os, hT.tape, hT.output, hT.size, fun i hi hS => by
            by_cases hp : 0 < V.length ∧ blockOf A2 = some i
            · exact hN.pk i hp.1 hp.2
            · refine hT.block i hi (fun h => ?_)
              rcases h with h | h | h | h | h
              · omega
              · omega
              · omega
              · simp [blockOf] at h
              · exact hp h⟩
          have BF := Lib.hid (show Bl w W from Turn.to_bl BW3.out T3 (fun i hi => hi))
          obtain ⟨R, hR⟩ : ∃ R, R = nrL N L s V z := ⟨_, rfl⟩
          rw [← hR] at HNI
          have p0 := HNI.out.box
          obtain ⟨m, hm9⟩ : ∃ m, m = R.length := ⟨_, rfl⟩
          rw [← hm9] at p0
          have HR := Lib.hid hR
          have HM9 := Lib.hid hm9
          have hbz : w.heap.size ≤ X.heap.size := by omega
          have hs0' : w.heap.size ≤ w3.heap.size := BW3.out.size
          clear hk hN hT hdef hs3 hb3 hin hN3 hR hm9 EP T3
          gi_wp2_with fail
          refine ⟨by simp, .inl ⟨_, _, rfl, run_takeDeferred HD.out, ?_⟩⟩
          refine ⟨.slice A1 m c1, by simp [results, Try.results40, go_sem], ?_⟩
          refine ⟨_, rfl, ?_, ?_⟩
          · rw [← HR.out, HM9.out]
            exact (show OwnI _ _ _ _ from Owns.turn (show Owns _ _ _ _ _ _ _ from HNI.out.own) (turn_put (fun i => i = D) _ (.deferred none) rfl) (fun g hg => NAB g (by rw [ownBlock_slice] at hg; exact hg))).low_ (by omega)
          · exact Turn.to_bl BF.out (turn_put (fun i => i = D) _ (.deferred none) rfl) (fun i hi => by rw [hi]; omega)

end Go.Proofs.Ytlddileiecnkjaa

set_option linter.unusedSimpArgs false
set_option linter.unusedVariables false
namespace Go.Proofs.Ytlddileiecnkjaa
open Go.RowKit



set_option maxHeartbeats 2000000 in
theorem node_any (N : Int) (v : Value) (rd : Nat) (A : Option Addr) (n c : Nat) (w : World) (hn : n ≤ 1099511627776) (h0 : -9223372036854775808 ≤ N) (h1 : N ≤ 9223372036854775807) (HR : RdAny w rd A n c) :
    Calls Try.prog 69 #[.pointer (some ⟨rd, 0, none⟩), .agg #[.int .i64 N, v]] w (RdPost In64 rd A n c w) := by
  have R := Lib.hid HR
  have hlt := HR.lt
  clear HR
  go_enter Try.func69, Try.ntmps69
  go_wp2_with fail
  refine (once_any 30 rd A n c _ hn (by omega) (by omega) (R.out.bl (Bl.alloc_ (Bl.refl w) _))).mono ?_
  rintro e w1 ⟨b, rfl, hr, hg⟩
  have R1 := Lib.hid hr
  have q0 : w1.cell? ⟨w.heap.size, 0, none⟩ = some (.int .i64 N) := hg.cell (by simp [go_sem]) (by simp; omega)
  have G1 := Lib.hid (grown_trans (bl_grown (Bl.alloc_ (Bl.refl w) _) _) hg)
  clear hr hg
  have hb := wrap64_bounds (N - 1)
  cases b with
  | true =>
    go_wp2_with fail
    refine (off_any 0 (wrap64 (N - 1)) rd A n c _ hn (by omega) (by omega) hb.1 hb.2 R1.out).mono ?_
    rintro e w2 ⟨d, hd, rfl, hr, hg⟩
    have HD := Lib.hid hd
    have R2 := Lib.hid hr
    have G2 := Lib.hid hg
    clear hr hg hd
    go_wp2
    go_ret
    exact ⟨d, HD.out, rfl, R2.out, grown_trans G1.out G2.out⟩
  | false =>
    go_wp2_with fail
    all_goals (refine (below_any _ rd A n c _ hn (by omega) R1.out).mono ?_; rintro e w2 ⟨d, hd, rfl, hr, hg⟩; have HD := Lib.hid (show In64 d from by unfold In64; omega); have R2 := Lib.hid hr; have G2 := Lib.hid hg; clear hr hg hd)
    all_goals (go_wp2; go_ret; exact ⟨d, HD.out, rfl, R2.out, grown_trans G1.out G2.out⟩)

end Go.Proofs.Ytlddileiecnkjaa

set_option linter.unusedSimpArgs false
set_option linter.unusedVariables false
namespace Go.Proofs.Ytlddileiecnkjaa
open Go.RowKit

theorem OwnA.grown_ {w w' : World} {B : Nat} {v : Value} {L : List Arc3} {row : Option Nat} (h : OwnA w B v L) (hg : w.grownBy w' row) (hne : ∀ g, row = some g → g < B) : OwnA w' B v L :=
  World.ownsRow.kept h hg (by
    cases hv : v.ownBlock with
    | none => exact .inl rfl
    | some g =>
      refine .inr fun e => ?_
      have h1 := (h.lt g hv).1
      have h2 := hne g e.symm
      omega)

/-- Two cells, in a block of their own. -/
def Two (w : World) (g : Nat) (a b : Value) : Prop := w.rowIs g 33 2 (fun i => if i = 0 then a else b)
theorem Two.new (w : World) (a b : Value) : Two (w.alloc (.cells #[a, b] 33)) w.heap.size a b :=
  World.rowIs_alloc w #[a, b] _ _ (fun i hi => by
    have : i = 0 ∨ i = 1 := by simp at hi; omega
    rcases this with rfl | rfl <;> simp)
theorem Two.facts {w : World} {g : Nat} {a b : Value} (h : Two w g a b) : w.cell? ⟨g, 0, none⟩ = some a ∧ w.cell? ⟨g, 1, none⟩ = some b ∧ w.frozen? ⟨g, 0, none⟩ = false ∧ w.frozen? ⟨g, 1, none⟩ = false :=
  ⟨h.cell (i := 0) (by omega), h.cell (i := 1) (by omega), h.frozen 0, h.frozen 1⟩
theorem Two.bl {w w' : World} {g : Nat} {a b : Value} (h : Two w g a b) (hb : Bl w w') : Two w' g a b := row_bl h hb
theorem Two.grown_ {w w' : World} {g : Nat} {a b : Value} {row : Option Nat} (h : Two w g a b) (hg : w.grownBy w' row) (hne : some g ≠ row) : Two w' g a b := World.rowIs.of_block h (hg.block g (World.rowIs.lt h) hne)
theorem Two.far {w : World} {g : Nat} {a b : Value} (h : Two w g a b) {p : Addr} (hp : g ≠ p.block) (u : Value) : Two (w.setCell p u) g a b := World.rowIs.setOther h hp u
theorem Two.set1 {w : World} {g : Nat} {a b : Value} (h : Two w g a b) (u : Value) : Two (w.setCell ⟨g, 1, none⟩ u) g a u :=
  (World.rowIs.set h 1 u).congr fun i hi => by
    have : i = 0 ∨ i = 1 := by omega
    rcases this with rfl | rfl <;> simp
theorem Two.set0 {w : World} {g : Nat} {a b : Value} (h : Two w g a b) (u : Value) : Two (w.setCell ⟨g, 0, none⟩ u) g u b :=
  (World.rowIs.set h 0 u).congr fun i hi => by
    have : i = 0 ∨ i = 1 := by omega
    rcases this with rfl | rfl <;> simp

/-- A graph of N nodes is put together in the box tb; the result's box is g0, still empty; P: the argument's box. -/
structure TS (w : World) (P : Obj) (g0 tb : Nat) (N : Int) (q : Value) (L : List Arc3) (wr : World) : Prop where
  box : Two wr tb (.int .i64 N) q
  res : Two wr g0 (.int .i64 0) (.slice none 0 0)
  own : OwnA wr (tb + 1) q L
  bl : Bl (w.alloc P) wr
  lo : w.heap.size < g0 ∧ g0 < tb
section
variable {w w2 wr : World} {P : Obj} {g0 tb : Nat} {N : Int} {q : Value} {L : List Arc3}
theorem TS.bl_ (h : TS w P g0 tb N q L wr) (hb : Bl wr w2) : TS w P g0 tb N q L w2 :=
  ⟨h.box.bl hb, h.res.bl hb, OwnA.bl h.own hb, h.bl.trans_ hb, h.lo⟩
theorem TS.grown_ (h : TS w P g0 tb N q L wr) (hg : wr.grownBy w2 q.ownBlock) {q2 : Value} {L2 : List Arc3} (ho : OwnA w2 (tb + 1) q2 L2) : Two w2 tb (.int .i64 N) q ∧ Two w2 g0 (.int .i64 0) (.slice none 0 0) ∧ Bl (w.alloc P) w2 := by
  obtain ⟨l1, l2⟩ := h.lo
  have key : ∀ g, g ≤ tb → some g ≠ q.ownBlock := fun g hg e => by
    have := (h.own.lt g e.symm).1
    omega
  exact ⟨h.box.grown_ hg (key tb (by omega)), h.res.grown_ hg (key g0 (by omega)), h.bl.grown_ hg (fun g e => by
    have := (h.own.lt g e).1
    simp
    omega)⟩
theorem TS.same (h : TS w P g0 tb N q L wr) (hg : wr.grownBy w2 q.ownBlock) {L2 : List Arc3} (ho : OwnA w2 (tb + 1) q L2) : TS w P g0 tb N q L2 w2 := by
  obtain ⟨a, b, c⟩ := h.grown_ hg ho
  exact ⟨a, b, ho, c, h.lo⟩
theorem TS.put (h : TS w P g0 tb N q L wr) {q2 : Value} {L2 : List Arc3} (ho : OwnA wr (tb + 1) q2 L2) : TS w P g0 tb N q2 L2 (wr.setCell ⟨tb, 1, none⟩ q2) := by
  obtain ⟨l1, l2⟩ := h.lo
  exact ⟨h.box.set1 q2, h.res.far (by show g0 ≠ tb; omega) q2, ho.set_ (by show tb < tb + 1; omega) q2, h.bl.set_ (by simp; omega) q2, h.lo⟩
theorem TS.fin (h : TS w P g0 tb N q L wr) (x y : Value) : OwnA ((wr.setCell ⟨g0, 0, none⟩ x).setCell ⟨g0, 1, none⟩ y) w.heap.size q L ∧ Bl w ((wr.setCell ⟨g0, 0, none⟩ x).setCell ⟨g0, 1, none⟩ y) := by
  obtain ⟨l1, l2⟩ := h.lo
  have hb : Bl w wr := (Bl.alloc_ (Bl.refl w) P).trans_ h.bl
  exact ⟨((h.own.set_ (by show g0 < tb + 1; omega) x).set_ (by show g0 < tb + 1; omega) y).low (by omega), (hb.set_ (by show w.heap.size ≤ g0; omega) x).set_ (by show w.heap.size ≤ g0; omega) y⟩
end


end Go.Proofs.Ytlddileiecnkjaa
