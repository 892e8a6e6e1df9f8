/-
  What is proved here: the reader of a code draws a graph in new memory; graphs and nodes that are drawn by a code; the reader of a code hands out numbers now and then outside of bounds, of which the lower one may be -1; a range over a function whose iterator keeps a state of its own in memory: a law for the statement, where a contract of the iterator is given. No conditions beyond those that each theorem states.
-/
import Derived.Test.YtffjpfanmnkmgaaJG02
import Derived.Test.YtffjpfanmnkmgaaJG04
import Derived.Test.YtffjpfanmnkmgaaJRB
import Derived.Test.YtffjpfanmnkmgaaJG01
import Derived.RangeFuncNested
import Derived.RangeFuncBound
import Derived.RangeFuncCalls
import Derived.RangeFuncLeaves
import Derived.Shelf.Abstract
import Derived.Shelf.RegionOpen
import Derived.OwnWalkIn
import Derived.TacticsInMore
import Derived.LoopNIn
import Derived.LoopIn
set_option linter.unusedSimpArgs false
set_option linter.unusedVariables false
namespace Go.Proofs.Ytffjpfanmnkmgaa
open Go.RowKit

/-- A drawn graph: some number of nodes, some arcs, in new memory. -/
def Drawn (B : Nat) (w' : World) (N : Int) (A' : Option Addr) (l c' : Nat) (L : List Arc3) : Prop :=
  l = L.length ∧ l ≤ 200 ∧ In64 N ∧ OwnA w' B (.slice A' l c') L
/-- What the drawing of a graph leaves. -/
def GraphDrawn (rd : Nat) (A : Option Addr) (n c : Nat) (w : World) (e : Ending) (w' : World) : Prop :=
  ∃ (N : Int) (A' : Option Addr) (l c' : Nat) (L : List Arc3), e = .returned (.agg #[.int .i64 N, .slice A' l c']) ∧ Drawn w.heap.size w' N A' l c' L ∧ RdAny w' rd A n c ∧ w.grownBy w' (some rd)

theorem RdAny.set_ {w : World} {rd : Nat} {A : Option Addr} {n c : Nat} (h : RdAny w rd A n c) {p : Addr} (hp : p.block ≠ rd) (hA : 0 < n → ∀ g off, A = some ⟨g, off, none⟩ → g ≠ p.block) (u : Value) : RdAny (w.setCell p u) rd A n c := by
  obtain ⟨q, hr, hq, hc⟩ := h
  refine ⟨q, World.rowIs.setOther hr (fun e => hp e.symm) u, hq, fun h0 => ?_⟩
  obtain ⟨g, off, e, hne, hlt, hcell⟩ := hc h0
  refine ⟨g, off, e, hne, by rw [World.size_setCell]; exact hlt, fun j hj => ?_⟩
  obtain ⟨b, h1, h2⟩ := hcell j hj
  exact ⟨b, by rw [World.cell?_setCell_other _ _ _ _ (fun e' => hA h0 g off e (by rw [e']))]; exact h1, h2⟩

/-- The state while a graph is drawn: the graph's box at gb, the result's box at g0. -/
structure GS (w : World) (rd : Nat) (A : Option Addr) (n c g0 gb : Nat) (N0 : Int) (q : Value) (L : List Arc3) (wr : World) : Prop where
  box : Two wr gb (.int .i64 N0) q
  res : Two wr g0 (.int .i64 0) (.slice none 0 0)
  own : OwnA wr (gb + 1) q L
  rdr : RdAny wr rd A n c
  grw : w.grownBy wr (some rd)
  lo1 : w.heap.size ≤ g0
  lo2 : g0 < gb
  rlt : rd < w.heap.size
  alt : 0 < n → ∀ g off, A = some ⟨g, off, none⟩ → g < w.heap.size
section
variable {w wr w2 : World} {rd : Nat} {A : Option Addr} {n c g0 gb : Nat} {N0 : Int} {q : Value} {L : List Arc3}
theorem GS.rd_ (h : GS w rd A n c g0 gb N0 q L wr) (hr : RdAny w2 rd A n c) (hg : wr.grownBy w2 (some rd)) : GS w rd A n c g0 gb N0 q L w2 := by
  have h1 := h.lo1; have h2 := h.lo2; have h3 := h.rlt
  exact ⟨h.box.grown_ hg (fun e => by injection e with e; omega), h.res.grown_ hg (fun e => by injection e with e; omega), h.own.grown_ hg (fun g e => by injection e with e; omega), hr, grown_trans h.grw hg, h1, h2, h3, h.alt⟩
theorem GS.bl_ (h : GS w rd A n c g0 gb N0 q L wr) (hb : Bl wr w2) : GS w rd A n c g0 gb N0 q L w2 :=
  ⟨h.box.bl hb, h.res.bl hb, h.own.bl hb, h.rdr.bl hb, grown_trans h.grw (bl_grown hb _), h.lo1, h.lo2, h.rlt, h.alt⟩
theorem GS.put (h : GS w rd A n c g0 gb N0 q L wr) {q2 : Value} {L2 : List Arc3} (ho : OwnA wr (gb + 1) q2 L2) : GS w rd A n c g0 gb N0 q2 L2 (wr.setCell ⟨gb, 1, none⟩ q2) := by
  have h1 := h.lo1; have h2 := h.lo2; have h3 := h.rlt
  exact ⟨h.box.set1 _, h.res.far (by show g0 ≠ gb; omega) _, ho.set_ (by show gb < gb + 1; omega) _, h.rdr.set_ (by show gb ≠ rd; omega) (fun h0 g off e => by have := h.alt h0 g off e; show g ≠ gb; omega) _,
    ⟨h.grw.os, h.grw.tape, h.grw.output, by rw [World.size_setCell]; exact h.grw.size, fun i hi hne => (Below.heap_setCell wr ⟨gb, 1, none⟩ q2 i (by show i ≠ gb; omega)).trans (h.grw.block i hi hne)⟩, h1, h2, h3, h.alt⟩
theorem GS.num (h : GS w rd A n c g0 gb N0 q L wr) (N1 : Int) : GS w rd A n c g0 gb N1 q L (wr.setCell ⟨gb, 0, none⟩ (.int .i64 N1)) := by
  have h1 := h.lo1; have h2 := h.lo2; have h3 := h.rlt
  exact ⟨h.box.set0 _, h.res.far (by show g0 ≠ gb; omega) _, h.own.set_ (by show gb < gb + 1; omega) _, h.rdr.set_ (by show gb ≠ rd; omega) (fun h0 g off e => by have := h.alt h0 g off e; show g ≠ gb; omega) _,
    ⟨h.grw.os, h.grw.tape, h.grw.output, by rw [World.size_setCell]; exact h.grw.size, fun i hi hne => (Below.heap_setCell wr ⟨gb, 0, none⟩ _ i (by show i ≠ gb; omega)).trans (h.grw.block i hi hne)⟩, h1, h2, h3, h.alt⟩
theorem GS.fin {A' : Option Addr} {l c' : Nat} (h : GS w rd A n c g0 gb N0 (.slice A' l c') L wr) (h0 : In64 N0) (hl : L.length ≤ 200) (x y : Value) :
    GraphDrawn rd A n c w (.returned (.agg #[.int .i64 N0, .slice A' l c'])) ((wr.setCell ⟨g0, 0, none⟩ x).setCell ⟨g0, 1, none⟩ y) := by
  have h1 := h.lo1; have h2 := h.lo2; have h3 := h.rlt
  obtain ⟨AA, cc, hq, _, _⟩ := h.own.shape
  injection hq with _ e2 _
  refine ⟨N0, A', l, c', L, rfl, ⟨e2, by omega, h0, ((h.own.set_ (by show g0 < gb + 1; omega) _).set_ (by show g0 < gb + 1; omega) _).low (by omega)⟩,
    (h.rdr.set_ (by show g0 ≠ rd; omega) (fun h0 g off e => by have := h.alt h0 g off e; show g ≠ g0; omega) _).set_ (by show g0 ≠ rd; omega) (fun h0 g off e => by have := h.alt h0 g off e; show g ≠ g0; omega) _,
    ⟨h.grw.os, h.grw.tape, h.grw.output, by rw [World.size_setCell, World.size_setCell]; exact h.grw.size, fun i hi hne => (Below.heap_setCell _ ⟨g0, 1, none⟩ y i (by show i ≠ g0; omega)).trans ((Below.heap_setCell wr ⟨g0, 0, none⟩ x i (by show i ≠ g0; omega)).trans (h.grw.block i hi hne))⟩⟩
end

set_option maxRecDepth 100000 in
set_option maxHeartbeats 8000000 in
theorem graph_any (most : Int) (rd : Nat) (A : Option Addr) (n c : Nat) (w : World) (hn : n ≤ 1099511627776) (m0 : 2 ≤ most) (m1 : most ≤ 16) (HR : RdAny w rd A n c) (HA : 0 < n → ∀ g off, A = some ⟨g, off, none⟩ → g < w.heap.size) :
    Calls Try.prog 97 #[.pointer (some ⟨rd, 0, none⟩), .int .i64 most] w (GraphDrawn rd A n c w) := by
  have R := Lib.hid HR
  have AL := Lib.hid HA
  have hlt := HR.lt
  clear HR HA
  go_enter Try.func97, Try.ntmps97
  go_wp2_with fail
  refine (below_any most rd A n c _ hn (by omega) (R.out.bl (Bl.alloc_ (Bl.refl w) _))).mono ?_
  rintro e w1 ⟨b, hb, rfl, hr, hg⟩
  have b0 : 0 ≤ b := hb.1
  have b1 : b < most := by omega
  have hs1 : w.heap.size + 1 ≤ w1.heap.size := by have := hg.size; simpa using this
  have GS0 := Lib.hid (show GS w rd A n c w.heap.size w1.heap.size (1 + b) (.slice none 0 0) [] (w1.alloc (.cells #[.int .i64 (1 + b), .slice none 0 0] 38)) from
    ⟨Two.new _ _ _, Two.bl ((Two.new w _ _).grown_ hg (fun e => by injection e with e; omega)) (Bl.alloc_ (Bl.refl _) _), OwnA.nil_ _ _, hr.bl (Bl.alloc_ (Bl.refl _) _),
      grown_trans (grown_trans (bl_grown (Bl.alloc_ (Bl.refl w) _) _) hg) (bl_grown (Bl.alloc_ (Bl.refl w1) _) _), Nat.le_refl _, by omega, hlt, AL.out⟩)
  obtain ⟨gb, hgb⟩ : ∃ gb, gb = w1.heap.size := ⟨_, rfl⟩
  clear hr hg hb
  go_wp2_with fail
  rw [← hgb] at GS0 ⊢
  refine (once_any 4 rd A n c _ hn (by omega) (by omega) GS0.out.rdr).mono ?_
  rintro e w2 ⟨tst, rfl, hr, hg⟩
  have GS1 := Lib.hid (GS0.out.rd_ hr hg)
  clear hr hg hgb hs1 GS0
  cases tst with
  | true =>
    have hL0 : ([] : List Arc3).length ≤ 32 := by simp
    obtain ⟨c0, c1, f0, f1⟩ := GS1.out.box.facts
    go_wp2_with fail
    refine (below_any 8 rd A n c _ hn (by omega) GS1.out.rdr).mono ?_
    rintro e w5 ⟨y, hy, rfl, hr, hg⟩
    have y0 : 0 ≤ y := hy.1
    have y1 : y < 8 := by have := hy.2; omega
    have T := Lib.hid (GS1.out.rd_ hr hg)
    clear hy hr hg c0 c1 f0 f1 GS1
    go_wp2_with fail
    go_loopw [9] (fun i wr => ∃ (m : Int) (q : Value) (L : List Arc3), 0 ≤ m ∧ m ≤ 7 ∧ i = .int .i64 m ∧ (L.length : Int) + m ≤ 40 ∧ GS w rd A n c w.heap.size gb (1 + b) q L wr) (fun i _ => (intOf i).toNat)
    case atStart => exact ⟨y, _, _, y0, by omega, rfl, by first | omega | (simp; omega), T.out⟩
    case round =>
      clear T hL0
      obtain ⟨m, q2, L2, mm0, m7, rfl, hL2, hS2⟩ := hrel
      have U := Lib.hid hS2
      clear hS2
      obtain ⟨c0, c1, f0, f1⟩ := U.out.box.facts
      by_cases e1 : 0 < m
      · by_cases e2 : 1 < 1 + b
        · go_wp2_with fail
          refine (below_any (1 + b) rd A n c _ hn (by omega) U.out.rdr).mono ?_
          rintro e w6 ⟨u, hu, rfl, hr, hg⟩
          have u0 : 0 ≤ u := hu.1
          have u1 : u < 16 := by have := hu.2; omega
          have U1 := Lib.hid (U.out.rd_ hr hg)
          clear hu hr hg c0 c1 f0 f1 U
          obtain ⟨c0, c1, f0, f1⟩ := U1.out.box.facts
          go_wp2_with fail
          refine (below_any (1 + b) rd A n c _ hn (by omega) U1.out.rdr).mono ?_
          rintro e w7 ⟨v, hv, rfl, hr, hg⟩
          have v0 : 0 ≤ v := hv.1
          have v1 : v < 16 := by have := hv.2; omega
          have U2 := Lib.hid (U1.out.rd_ hr hg)
          clear hv hr hg c0 c1 f0 f1 U1
          obtain ⟨AA, cc, rfl, hAA, _⟩ := U2.out.own.shape
          clear hAA
          obtain ⟨c0, c1, f0, f1⟩ := U2.out.box.facts
          by_cases e3 : (u != v) = true
          · go_wp2_with fail
            go_region_with (first
              | (go_at_call 81; refine (below_any 12 rd A n c _ hn (by omega) ((U2.out.bl_ (by repeat' (first | exact Bl.refl _ | with_reducible assumption | with_reducible refine Bl.drew_ ?_ | with_reducible refine Bl.drewN_ ?_ _ | with_reducible refine Bl.alloc_ ?_ _ | with_reducible refine Bl.trans_ ?_ (by assumption) | with_reducible refine Bl.trans_ ?_ (And.left (by assumption))))).rdr)).mono ?_; rintro e w8 ⟨z, hz, rfl, hr, hg⟩; have z0 : 0 ≤ z := hz.1; have z1 : z < 12 := (by have := hz.2; omega); have U3 := Lib.hid ((U2.out.bl_ (by repeat' (first | exact Bl.refl _ | with_reducible assumption | with_reducible refine Bl.drew_ ?_ | with_reducible refine Bl.drewN_ ?_ _ | with_reducible refine Bl.alloc_ ?_ _ | with_reducible refine Bl.trans_ ?_ (by assumption) | with_reducible refine Bl.trans_ ?_ (And.left (by assumption))))).rd_ hr hg); clear hz hr hg; obtain ⟨d0, d1, k0, k1⟩ := U3.out.box.facts)
              | (go_at_call 129; obtain ⟨_, _, hq, hAA, _⟩ := U3.out.own.shape; injection hq with q1 _ q3; subst q1; subst q3; refine (l1Put_any _ _ _ _ _ _ L2 rfl _ (by omega) hAA).mono ?_; rintro e w9 ⟨v4, rfl, ho, hb⟩; obtain ⟨AB, cb, rfl, _, _⟩ := ho.shape; have P := putL_len (u, v, 1 + z) L2; have U4 := Lib.hid ((U3.out.bl_ hb).put (ho.low (World.rowIs.lt U3.out.box))); clear d0 d1 k0 k1; obtain ⟨d0, d1, k0, k1⟩ := (U3.out.bl_ hb).box.facts; clear hAA ho hb))
            all_goals (go_wp2; go_roundw)
            all_goals (first | (case measure => (simp [intOf]; omega)) | skip)
            all_goals (refine ⟨m - 1, .slice AB (putL (u, v, 1 + z) L2).length cb, putL (u, v, 1 + z) L2, by omega, by omega, by go_num, by omega, by have hw : IntKind.i64.wrap (1 + z) = 1 + z := IntWalk.i64_in _ (by omega); have X := U4.out; rw [hw] at X; exact X⟩)
          · have e3' : (u != v) = false := by simpa using e3
            clear e3
            go_wp2_with fail
            go_roundw
            case rel => exact ⟨m - 1, _, L2, by omega, by omega, by go_num, by omega, U2.out⟩
            case measure => simp [intOf]; omega
        · skip
          obtain ⟨AV, cv, rfl, hAV, _⟩ := U.out.own.shape
          clear hAV
          go_wp2_with fail
          refine (once_any 60 rd A n c _ hn (by omega) (by omega) U.out.rdr).mono ?_
          rintro e w8 ⟨t3, rfl, hr, hg⟩
          have V := Lib.hid (U.out.rd_ hr hg)
          clear hr hg c0 c1 f0 f1 U
          cases t3 with
          | true =>
            go_wp2_with fail
            refine (off_any 1 24 rd A n c _ hn (by omega) (by omega) (by omega) (by omega) V.out.rdr).mono ?_
            rintro e w9 ⟨N9, hN9, rfl, hr, hg⟩
            have W := Lib.hid (V.out.rd_ hr hg)
            obtain ⟨c0, c1, f0, f1⟩ := W.out.box.facts
            obtain ⟨r0, r1, fr0, fr1⟩ := W.out.res.facts
            have nb : gb ≠ w.heap.size := by have := W.out.lo2; omega
            have nb' : w.heap.size ≠ gb := by omega
            go_wp2
            refine bodyPost_ret (v := .agg #[.int .i64 N9, .slice AV L2.length cv]) (by simp [results, Try.results97, go_sem, r0, r1, fr0, fr1, nb, nb']) rfl ?_
            exact GS.fin (W.out.num N9) hN9 (by omega) _ _
          | false =>
            obtain ⟨c0, c1, f0, f1⟩ := V.out.box.facts
            obtain ⟨r0, r1, fr0, fr1⟩ := V.out.res.facts
            have nb : gb ≠ w.heap.size := by have := V.out.lo2; omega
            have nb' : w.heap.size ≠ gb := by omega
            go_wp2
            refine bodyPost_ret (v := .agg #[.int .i64 (1 + b), .slice AV L2.length cv]) (by simp [results, Try.results97, go_sem, r0, r1, fr0, fr1, nb, nb']) rfl ?_
            exact GS.fin (V.out) ⟨by omega, by omega⟩ (by omega) _ _
      · skip
        obtain ⟨AV, cv, rfl, hAV, _⟩ := U.out.own.shape
        clear hAV
        go_wp2_with fail
        refine (once_any 60 rd A n c _ hn (by omega) (by omega) U.out.rdr).mono ?_
        rintro e w8 ⟨t3, rfl, hr, hg⟩
        have V := Lib.hid (U.out.rd_ hr hg)
        clear hr hg c0 c1 f0 f1 U
        cases t3 with
        | true =>
          go_wp2_with fail
          refine (off_any 1 24 rd A n c _ hn (by omega) (by omega) (by omega) (by omega) V.out.rdr).mono ?_
          rintro e w9 ⟨N9, hN9, rfl, hr, hg⟩
          have W := Lib.hid (V.out.rd_ hr hg)
          obtain ⟨c0, c1, f0, f1⟩ := W.out.box.facts
          obtain ⟨r0, r1, fr0, fr1⟩ := W.out.res.facts
          have nb : gb ≠ w.heap.size := by have := W.out.lo2; omega
          have nb' : w.heap.size ≠ gb := by omega
          go_wp2
          refine bodyPost_ret (v := .agg #[.int .i64 N9, .slice AV L2.length cv]) (by simp [results, Try.results97, go_sem, r0, r1, fr0, fr1, nb, nb']) rfl ?_
          exact GS.fin (W.out.num N9) hN9 (by omega) _ _
        | false =>
          obtain ⟨c0, c1, f0, f1⟩ := V.out.box.facts
          obtain ⟨r0, r1, fr0, fr1⟩ := V.out.res.facts
          have nb : gb ≠ w.heap.size := by have := V.out.lo2; omega
          have nb' : w.heap.size ≠ gb := by omega
          go_wp2
          refine bodyPost_ret (v := .agg #[.int .i64 (1 + b), .slice AV L2.length cv]) (by simp [results, Try.results97, go_sem, r0, r1, fr0, fr1, nb, nb']) rfl ?_
          exact GS.fin (V.out) ⟨by omega, by omega⟩ (by omega) _ _
  | false =>
    go_wp2_with fail
    go_loopw [7] (fun i wr => ∃ (k : Nat) (q : Value) (L : List Arc3), (k : Int) ≤ b ∧ i = .int .i64 k ∧ L.length ≤ 2 * k ∧ GS w rd A n c w.heap.size gb (1 + b) q L wr) (fun i _ => (16 - intOf i).toNat)
    case atStart => exact ⟨0, _, _, by omega, rfl, by simp, GS1.out⟩
    case round =>
      obtain ⟨k, q, L, hk, rfl, hL, hS⟩ := hrel
      have S := Lib.hid hS
      clear hS
      by_cases hlt : (k : Int) + 1 < 1 + b
      · skip
        obtain ⟨c0, c1, f0, f1⟩ := S.out.box.facts
        go_wp2_with fail
        refine (below_any 5 rd A n c _ hn (by omega) S.out.rdr).mono ?_
        rintro e w3 ⟨x, hx, rfl, hr, hg⟩
        have x0 : 0 ≤ x := hx.1
        have x1 : x < 5 := by have := hx.2; omega
        have S3 := Lib.hid (S.out.rd_ hr hg)
        clear c0 c1 f0 f1 hr hg S hx
        have P := Lib.hid (putL_len (k, k + 1, 1 + x) L)
        obtain ⟨AA1, cc1, rfl, hAA, _⟩ := S3.out.own.shape
        have HA := Lib.hid hAA
        clear hAA
        obtain ⟨c0, c1, f0, f1⟩ := S3.out.box.facts
        go_wp2_with fail
        refine (l1Put_any _ _ _ AA1 _ cc1 _ rfl _ (by omega) HA.out).mono ?_
        rintro e w4 ⟨v4, rfl, ho, hb⟩
        obtain ⟨AB1, cb1, rfl, _, _⟩ := ho.shape
        have S4 := Lib.hid ((S3.out.bl_ hb).put (ho.low (World.rowIs.lt S3.out.box)))
        clear c0 c1 f0 f1
        obtain ⟨c0, c1, f0, f1⟩ := (S3.out.bl_ hb).box.facts
        clear ho hb S3 HA
        go_wp2_with fail
        refine (once_any 2 rd A n c _ hn (by omega) (by omega) S4.out.rdr).mono ?_
        rintro e w5 ⟨tst, rfl, hr, hg⟩
        have S5 := Lib.hid (S4.out.rd_ hr hg)
        clear hr hg c0 c1 f0 f1 S4
        have P := P.out
        cases tst with
        | true =>
          have P2 := putL_len (k + 1, k, 1 + x) (putL (k, k + 1, 1 + x) L)
          obtain ⟨AA2, cc2, hq, hAA, _⟩ := S5.out.own.shape
          injection hq with e1 _ e3
          subst e1
          subst e3
          have HA := Lib.hid hAA
          clear hAA
          obtain ⟨c0, c1, f0, f1⟩ := S5.out.box.facts
          go_wp2_with fail
          refine (l1Put_any _ _ _ _ _ _ _ rfl _ (by omega) HA.out).mono ?_
          rintro e w6 ⟨v4, rfl, ho, hb⟩
          obtain ⟨AB2, cb2, rfl, _, _⟩ := ho.shape
          have S6 := Lib.hid ((S5.out.bl_ hb).put (ho.low (World.rowIs.lt S5.out.box)))
          clear c0 c1 f0 f1
          obtain ⟨c0, c1, f0, f1⟩ := (S5.out.bl_ hb).box.facts
          clear ho hb S5 HA
          go_wp2_with fail
          go_roundw
          case rel => exact ⟨k + 1, _, _, by omega, by go_num, by omega, S6.out⟩
          case measure => simp [intOf]; omega
        | false =>
          go_wp2_with fail
          go_roundw
          case rel => exact ⟨k + 1, _, _, by omega, by go_num, by omega, S5.out⟩
          case measure => simp [intOf]; omega
      · have hL0 : L.length ≤ 32 := by omega
        clear hL
        obtain ⟨c0, c1, f0, f1⟩ := S.out.box.facts
        go_wp2_with fail
        refine (below_any 8 rd A n c _ hn (by omega) S.out.rdr).mono ?_
        rintro e w5 ⟨y, hy, rfl, hr, hg⟩
        have y0 : 0 ≤ y := hy.1
        have y1 : y < 8 := by have := hy.2; omega
        have T := Lib.hid (S.out.rd_ hr hg)
        clear hy hr hg c0 c1 f0 f1 S
        go_wp2_with fail
        go_loopw [9] (fun i wr => ∃ (m : Int) (q : Value) (L : List Arc3), 0 ≤ m ∧ m ≤ 7 ∧ i = .int .i64 m ∧ (L.length : Int) + m ≤ 40 ∧ GS w rd A n c w.heap.size gb (1 + b) q L wr) (fun i _ => (intOf i).toNat)
        case atStart => exact ⟨y, _, _, y0, by omega, rfl, by first | omega | (simp; omega), T.out⟩
        case round =>
          clear T hL0
          obtain ⟨m, q2, L2, mm0, m7, rfl, hL2, hS2⟩ := hrel
          have U := Lib.hid hS2
          clear hS2
          obtain ⟨c0, c1, f0, f1⟩ := U.out.box.facts
          by_cases e1 : 0 < m
          · by_cases e2 : 1 < 1 + b
            · go_wp2_with fail
              refine (below_any (1 + b) rd A n c _ hn (by omega) U.out.rdr).mono ?_
              rintro e w6 ⟨u, hu, rfl, hr, hg⟩
              have u0 : 0 ≤ u := hu.1
              have u1 : u < 16 := by have := hu.2; omega
              have U1 := Lib.hid (U.out.rd_ hr hg)
              clear hu hr hg c0 c1 f0 f1 U
              obtain ⟨c0, c1, f0, f1⟩ := U1.out.box.facts
              go_wp2_with fail
              refine (below_any (1 + b) rd A n c _ hn (by omega) U1.out.rdr).mono ?_
              rintro e w7 ⟨v, hv, rfl, hr, hg⟩
              have v0 : 0 ≤ v := hv.1
              have v1 : v < 16 := by have := hv.2; omega
              have U2 := Lib.hid (U1.out.rd_ hr hg)
              clear hv hr hg c0 c1 f0 f1 U1
              obtain ⟨AA, cc, rfl, hAA, _⟩ := U2.out.own.shape
              clear hAA
              obtain ⟨c0, c1, f0, f1⟩ := U2.out.box.facts
              by_cases e3 : (u != v) = true
              · go_wp2_with fail
                go_region_with (first
                  | (go_at_call 81; refine (below_any 12 rd A n c _ hn (by omega) ((U2.out.bl_ (by repeat' (first | exact Bl.refl _ | with_reducible assumption | with_reducible refine Bl.drew_ ?_ | with_reducible refine Bl.drewN_ ?_ _ | with_reducible refine Bl.alloc_ ?_ _ | with_reducible refine Bl.trans_ ?_ (by assumption) | with_reducible refine Bl.trans_ ?_ (And.left (by assumption))))).rdr)).mono ?_; rintro e w8 ⟨z, hz, rfl, hr, hg⟩; have z0 : 0 ≤ z := hz.1; have z1 : z < 12 := (by have := hz.2; omega); have U3 := Lib.hid ((U2.out.bl_ (by repeat' (first | exact Bl.refl _ | with_reducible assumption | with_reducible refine Bl.drew_ ?_ | with_reducible refine Bl.drewN_ ?_ _ | with_reducible refine Bl.alloc_ ?_ _ | with_reducible refine Bl.trans_ ?_ (by assumption) | with_reducible refine Bl.trans_ ?_ (And.left (by assumption))))).rd_ hr hg); clear hz hr hg; obtain ⟨d0, d1, k0, k1⟩ := U3.out.box.facts)
                  | (go_at_call 129; obtain ⟨_, _, hq, hAA, _⟩ := U3.out.own.shape; injection hq with q1 _ q3; subst q1; subst q3; refine (l1Put_any _ _ _ _ _ _ L2 rfl _ (by omega) hAA).mono ?_; rintro e w9 ⟨v4, rfl, ho, hb⟩; obtain ⟨AB, cb, rfl, _, _⟩ := ho.shape; have P := putL_len (u, v, 1 + z) L2; have U4 := Lib.hid ((U3.out.bl_ hb).put (ho.low (World.rowIs.lt U3.out.box))); clear d0 d1 k0 k1; obtain ⟨d0, d1, k0, k1⟩ := (U3.out.bl_ hb).box.facts; clear hAA ho hb))
                all_goals (go_wp2; go_roundw)
                all_goals (first | (case measure => (simp [intOf]; omega)) | skip)
                all_goals (refine ⟨m - 1, .slice AB (putL (u, v, 1 + z) L2).length cb, putL (u, v, 1 + z) L2, by omega, by omega, by go_num, by omega, by have hw : IntKind.i64.wrap (1 + z) = 1 + z := IntWalk.i64_in _ (by omega); have X := U4.out; rw [hw] at X; exact X⟩)
              · have e3' : (u != v) = false := by simpa using e3
                clear e3
                go_wp2_with fail
                go_roundw
                case rel => exact ⟨m - 1, _, L2, by omega, by omega, by go_num, by omega, U2.out⟩
                case measure => simp [intOf]; omega
            · skip
              obtain ⟨AV, cv, rfl, hAV, _⟩ := U.out.own.shape
              clear hAV
              go_wp2_with fail
              refine (once_any 60 rd A n c _ hn (by omega) (by omega) U.out.rdr).mono ?_
              rintro e w8 ⟨t3, rfl, hr, hg⟩
              have V := Lib.hid (U.out.rd_ hr hg)
              clear hr hg c0 c1 f0 f1 U
              cases t3 with
              | true =>
                go_wp2_with fail
                refine (off_any 1 24 rd A n c _ hn (by omega) (by omega) (by omega) (by omega) V.out.rdr).mono ?_
                rintro e w9 ⟨N9, hN9, rfl, hr, hg⟩
                have W := Lib.hid (V.out.rd_ hr hg)
                obtain ⟨c0, c1, f0, f1⟩ := W.out.box.facts
                obtain ⟨r0, r1, fr0, fr1⟩ := W.out.res.facts
                have nb : gb ≠ w.heap.size := by have := W.out.lo2; omega
                have nb' : w.heap.size ≠ gb := by omega
                go_wp2
                refine bodyPost_ret (v := .agg #[.int .i64 N9, .slice AV L2.length cv]) (by simp [results, Try.results97, go_sem, r0, r1, fr0, fr1, nb, nb']) rfl ?_
                exact GS.fin (W.out.num N9) hN9 (by omega) _ _
              | false =>
                obtain ⟨c0, c1, f0, f1⟩ := V.out.box.facts
                obtain ⟨r0, r1, fr0, fr1⟩ := V.out.res.facts
                have nb : gb ≠ w.heap.size := by have := V.out.lo2; omega
                have nb' : w.heap.size ≠ gb := by omega
                go_wp2
                refine bodyPost_ret (v := .agg #[.int .i64 (1 + b), .slice AV L2.length cv]) (by simp [results, Try.results97, go_sem, r0, r1, fr0, fr1, nb, nb']) rfl ?_
                exact GS.fin (V.out) ⟨by omega, by omega⟩ (by omega) _ _
          · skip
            obtain ⟨AV, cv, rfl, hAV, _⟩ := U.out.own.shape
            clear hAV
            go_wp2_with fail
            refine (once_any 60 rd A n c _ hn (by omega) (by omega) U.out.rdr).mono ?_
            rintro e w8 ⟨t3, rfl, hr, hg⟩
            have V := Lib.hid (U.out.rd_ hr hg)
            clear hr hg c0 c1 f0 f1 U
            cases t3 with
            | true =>
              go_wp2_with fail
              refine (off_any 1 24 rd A n c _ hn (by omega) (by omega) (by omega) (by omega) V.out.rdr).mono ?_
              rintro e w9 ⟨N9, hN9, rfl, hr, hg⟩
              have W := Lib.hid (V.out.rd_ hr hg)
              obtain ⟨c0, c1, f0, f1⟩ := W.out.box.facts
              obtain ⟨r0, r1, fr0, fr1⟩ := W.out.res.facts
              have nb : gb ≠ w.heap.size := by have := W.out.lo2; omega
              have nb' : w.heap.size ≠ gb := by omega
              go_wp2
              refine bodyPost_ret (v := .agg #[.int .i64 N9, .slice AV L2.length cv]) (by simp [results, Try.results97, go_sem, r0, r1, fr0, fr1, nb, nb']) rfl ?_
              exact GS.fin (W.out.num N9) hN9 (by omega) _ _
            | false =>
              obtain ⟨c0, c1, f0, f1⟩ := V.out.box.facts
              obtain ⟨r0, r1, fr0, fr1⟩ := V.out.res.facts
              have nb : gb ≠ w.heap.size := by have := V.out.lo2; omega
              have nb' : w.heap.size ≠ gb := by omega
              go_wp2
              refine bodyPost_ret (v := .agg #[.int .i64 (1 + b), .slice AV L2.length cv]) (by simp [results, Try.results97, go_sem, r0, r1, fr0, fr1, nb, nb']) rfl ?_
              exact GS.fin (V.out) ⟨by omega, by omega⟩ (by omega) _ _

end Go.Proofs.Ytffjpfanmnkmgaa

set_option linter.unusedSimpArgs false
set_option linter.unusedVariables false
namespace Go.Proofs.Ytffjpfanmnkmgaa
open Go.RowKit

theorem BytesAt.lt' {w : World} {A : Option Addr} {n : Nat} (h : BytesAt w A n) : 0 < n → ∀ g off, A = some ⟨g, off, none⟩ → g < w.heap.size := fun h0 g off e => by
  obtain ⟨g', off', e', hlt, -⟩ := h h0
  rw [e] at e'
  injection e' with e'
  injection e' with e1
  omega
/-- A graph and a node that are drawn by a code. -/
def DrawnG1 (w : World) (e : Ending) (w' : World) : Prop :=
  ∃ (N : Int) (A' : Option Addr) (l c' : Nat) (L : List Arc3) (s : Int), e = .returned (.tuple #[.agg #[.int .i64 N, .slice A' l c'], .int .i64 s]) ∧ Drawn w.heap.size w' N A' l c' L ∧ In64 s ∧ Bl w w'
theorem Drawn.far {B : Nat} {w w' : World} {N : Int} {A' : Option Addr} {l c' : Nat} {L : List Arc3} (h : Drawn B w N A' l c' L) {rd : Nat} (hg : w.grownBy w' (some rd)) (hr : rd < B) : Drawn B w' N A' l c' L :=
  ⟨h.1, h.2.1, h.2.2.1, h.2.2.2.grown_ hg (fun g e => by injection e with e; omega)⟩
theorem Drawn.low {B B' : Nat} {w : World} {N : Int} {A' : Option Addr} {l c' : Nat} {L : List Arc3} (h : Drawn B w N A' l c' L) (hB : B' ≤ B) : Drawn B' w N A' l c' L :=
  ⟨h.1, h.2.1, h.2.2.1, h.2.2.2.low hB⟩
theorem Drawn.bl {B : Nat} {w w' : World} {N : Int} {A' : Option Addr} {l c' : Nat} {L : List Arc3} (h : Drawn B w N A' l c' L) (hb : Bl w w') : Drawn B w' N A' l c' L :=
  ⟨h.1, h.2.1, h.2.2.1, OwnA.bl h.2.2.2 hb⟩
theorem Drawn.arcs {B : Nat} {w : World} {N : Int} {A' : Option Addr} {l c' : Nat} {L : List Arc3} (h : Drawn B w N A' l c' L) : ArcsAt w w.heap.size A' L ∧ l ≤ c' := by
  obtain ⟨h1, h2, h3, h4⟩ := h
  obtain ⟨AA, cc, e, ha, -⟩ := h4.shape
  injection e with e1 e2 e3
  refine ⟨by rw [e1]; exact ha, ?_⟩
  have h' : w.ownsRow B 87 3 (.slice A' l c') L.length (cs3 L) := h4
  rcases h'.2 with ⟨e, h0⟩ | ⟨g, cap, cur, e, hB, hg, hnc, -⟩
  · injection e with e1 e2 e3
    omega
  · injection e with e1 e2 e3
    omega

set_option maxRecDepth 100000 in
set_option maxHeartbeats 1000000 in
theorem drawDistFrom_any (A : Option Addr) (n c : Nat) (w : World) (hn : n ≤ 1099511627776) (H : BytesAt w A n) :
    Calls Try.prog 56 #[.slice A n c] w (DrawnG1 w) := by
  have K := Lib.hid H
  clear H
  go_enter Try.func56, Try.ntmps56
  go_wp2_with fail
  refine (open_any A n c _ (K.out.bl (by repeat' (first | exact Bl.refl _ | with_reducible assumption | with_reducible refine Bl.drew_ ?_ | with_reducible refine Bl.drewN_ ?_ _ | with_reducible refine Bl.alloc_ ?_ _ | with_reducible refine Bl.trans_ ?_ (by assumption) | with_reducible refine Bl.trans_ ?_ (And.left (by assumption)))))).mono ?_
  rintro e w1 ⟨rfl, hr, hb, hlt⟩
  have R1 := Lib.hid (show RdAny w1 (w.heap.size + 1) A n c from by rw [World.size_alloc] at hr; exact hr)
  have B1 := Lib.hid hb
  have s1 := hb.size
  simp only [World.size_alloc] at s1 hlt
  clear hr hb
  go_wp2_with fail
  refine (graph_any 10 (w.heap.size + 1) A n c _ hn (by omega) (by omega) R1.out (fun h0 g off e => by have := K.out.lt' h0 g off e; omega)).mono ?_
  rintro e w2 ⟨N, A', l, c', L, rfl, hd, hr, hg⟩
  have D2 := Lib.hid hd
  have R2 := Lib.hid hr
  have G2 := Lib.hid hg
  have hN := hd.2.2.1
  have s2 := hg.size
  clear hd hr hg
  have B2 := Lib.hid (show Bl (w.alloc (.cells #[.int .i64 0, .slice none 0 0] 38)) w2 from B1.out.grown_ G2.out (fun g e => by injection e with e; simp; omega))
  have R3 := Lib.hid (R2.out.bl (Bl.alloc_ (Bl.refl w2) (.cells #[.int .i64 N, .slice A' l c'] 38)))
  have HSH := Lib.hid (show ∀ wx, (w2.alloc (.cells #[.int .i64 N, .slice A' l c'] 38)).grownBy wx (some (w.heap.size + 1)) → (w2.alloc (.cells #[.int .i64 N, .slice A' l c'] 38)).grownBy wx (some (w.heap.size + 1)) ∧ wx.cell? ⟨w2.heap.size, 0, none⟩ = some (.int .i64 N) ∧ wx.cell? ⟨w2.heap.size, 1, none⟩ = some (.slice A' l c') from fun wx h =>
    ⟨h, h.cell (by simp [go_sem]) (by simp; omega), h.cell (by simp [go_sem]) (by simp; omega)⟩)
  have hN0 := hN.1
  have hN1 := hN.2
  have RES := Lib.hid (show Two (w2.alloc (.cells #[.int .i64 N, .slice A' l c'] 38)) w.heap.size (.int .i64 0) (.slice none 0 0) from ((Two.new w _ _).bl B2.out).bl (Bl.alloc_ (Bl.refl _) _))
  have nb : w2.heap.size ≠ w.heap.size := by omega
  have nb' : w.heap.size ≠ w2.heap.size := by omega
  go_wp2_with fail
  refine wp_region_held_drew (S := fun wx => wx.cell? ⟨w2.heap.size, 0, none⟩ = some (.int .i64 N) ∧ wx.cell? ⟨w2.heap.size, 1, none⟩ = some (.slice A' l c')) (by kernel_rfl) ?_ (fun hHeld => ?_)
  · (first | exact (HSH.out _ hGG).2 | (refine ⟨?_, ?_⟩ <;> (simp [go_sem, nb, nb', *]; done)))
  refine wpAnyH_take (i := 0) (v := ?_) rfl (by kernel_rfl) (by kernel_rfl) (by kernel_rfl) (fun _ _ _ h => h) (Or.inl ⟨by kernel_rfl, ?_⟩) (by assumption) ?_
  rotate_left
  · (intro wx hSw; (try dsimp only at hSw); go_simp; try (with_reducible rfl))
  try simp only [Act.put, List.getElem_toArray, List.getElem_cons_succ, List.getElem_cons_zero, List.setIfInBounds_toArray, List.set_cons_zero, List.set_cons_succ]
  refine wpAnyH_take (i := 1) (v := ?_) rfl (by kernel_rfl) (by kernel_rfl) (by kernel_rfl) (fun _ _ _ h => h) (Or.inl ⟨by kernel_rfl, ?_⟩) (by assumption) ?_
  rotate_left
  · (intro wx hSw; (try dsimp only at hSw); go_simp; try (with_reducible rfl))
  try simp only [Act.put, List.getElem_toArray, List.getElem_cons_succ, List.getElem_cons_zero, List.setIfInBounds_toArray, List.set_cons_zero, List.set_cons_succ]
  refine wpAnyH_take (i := 2) (v := ?_) rfl (by kernel_rfl) (by kernel_rfl) (by kernel_rfl) (fun _ _ _ h => h) (Or.inl ⟨by kernel_rfl, ?_⟩) (by assumption) ?_
  rotate_left
  · (intro wx hSw; (try dsimp only at hSw); go_simp; try (with_reducible rfl))
  try simp only [Act.put, List.getElem_toArray, List.getElem_cons_succ, List.getElem_cons_zero, List.setIfInBounds_toArray, List.set_cons_zero, List.set_cons_succ]
  refine wpAnyH_ready (rs := [3]) (by kernel_rfl) (by simp) ?_
  refine AllReadyH.cons rfl (fun K hK => ?_) AllReadyH.nil
  go_simp
  (go_at_call 85; refine (node_any N _ (w.heap.size + 1) A n c _ hn hN0 hN1 (R3.out.bl (by repeat' (first | exact Bl.refl _ | with_reducible assumption | with_reducible refine Bl.drew_ ?_ | with_reducible refine Bl.drewN_ ?_ _ | with_reducible refine Bl.alloc_ ?_ _ | with_reducible refine Bl.trans_ ?_ (by assumption) | with_reducible refine Bl.trans_ ?_ (And.left (by assumption)))))).mono ?_; rintro e w3 ⟨x, hx, rfl, hr, hg⟩; have hGG := grown_trans (bl_grown (show Bl (w2.alloc (.cells #[.int .i64 N, .slice A' l c'] 38)) _ from (by repeat' (first | exact Bl.refl _ | with_reducible assumption | with_reducible refine Bl.drew_ ?_ | with_reducible refine Bl.drewN_ ?_ _ | with_reducible refine Bl.alloc_ ?_ _ | with_reducible refine Bl.trans_ ?_ (by assumption) | with_reducible refine Bl.trans_ ?_ (And.left (by assumption))))) _) hg; obtain ⟨r0, r1, fr0, fr1⟩ := Two.facts ((RES.out).grown_ hGG (by simp)))
  try (go_wp2_with fail)
  refine hK.out _ _ ?_ (fun hHeld => ?_)
  · (first | exact (HSH.out _ hGG).2 | (refine ⟨?_, ?_⟩ <;> (simp [go_sem, nb, nb', *]; done)))
  clear hK K
  try simp only [Act.put, List.getElem_toArray, List.getElem_cons_succ, List.getElem_cons_zero, List.setIfInBounds_toArray, List.set_cons_zero, List.set_cons_succ]
  refine wpAnyH_ready (rs := [4]) (by kernel_rfl) (by simp) ?_
  refine AllReadyH.cons rfl (fun K hK => ?_) AllReadyH.nil
  go_simp
  refine hK.out _ _ ?_ (fun hHeld => ?_)
  · (first | exact (HSH.out _ hGG).2 | (refine ⟨?_, ?_⟩ <;> (simp [go_sem, nb, nb', *]; done)))
  clear hK K
  try simp only [Act.put, List.getElem_toArray, List.getElem_cons_succ, List.getElem_cons_zero, List.setIfInBounds_toArray, List.set_cons_zero, List.set_cons_succ]
  refine wpAnyH_take (i := 5) (v := ?_) rfl (by kernel_rfl) (by kernel_rfl) (by kernel_rfl) (fun _ _ _ h => h) (Or.inl ⟨by kernel_rfl, ?_⟩) (by assumption) ?_
  rotate_left
  · (intro wx hSw; (try dsimp only at hSw); go_simp; try (with_reducible rfl))
  try simp only [Act.put, List.getElem_toArray, List.getElem_cons_succ, List.getElem_cons_zero, List.setIfInBounds_toArray, List.set_cons_zero, List.set_cons_succ]
  refine wpAnyH_done (by kernel_rfl) ?_ _
  go_wp2
  refine bodyPost_ret (v := .tuple #[.agg #[.int .i64 N, .slice A' l c'], .int .i64 x]) (by simp [results, Try.results56, go_sem, r0, r1, fr0, fr1]) rfl ?_
  have D3 := (D2.out.bl (Bl.alloc_ (Bl.refl w2) (.cells #[.int .i64 N, .slice A' l c'] 38))).far hGG (by omega)
  have B3 : Bl w w3 := ((((Bl.alloc_ (Bl.refl w) _).trans_ B2.out).alloc_ (.cells #[.int .i64 N, .slice A' l c'] 38)).grown_ hGG (fun g e => by injection e with e; omega))
  exact ⟨N, A', l, c', L, x, rfl, ⟨D3.1, D3.2.1, D3.2.2.1, ((D3.2.2.2.set_ (by show w.heap.size < w1.heap.size; omega) _).set_ (by show w.heap.size < w1.heap.size; omega) _).low (by omega)⟩, hx, (B3.set_ (Nat.le_refl _) _).set_ (Nat.le_refl _) _⟩



end Go.Proofs.Ytffjpfanmnkmgaa

set_option linter.unusedSimpArgs false
set_option linter.unusedVariables false
namespace Go.Proofs.Ytffjpfanmnkmgaa
open Go.RowKit

theorem divL_ok {lo hi : Int} (h : lo ≤ hi) (l0 : -1 ≤ lo) (l1 : lo ≤ 1000) (h0 : -1 ≤ hi) (h1 : hi ≤ 1000) : ¬ (IntKind.u64.wrap (wrap64 (hi - lo + 1)) = 0) := by
  rw [IntKind.wrap_u64]
  unfold wrap64
  omega

set_option maxHeartbeats 2000000 in
theorem nearL_any (lo hi : Int) (rd : Nat) (A : Option Addr) (n c : Nat) (w : World) (hn : n ≤ 1099511627776) (l0 : -1 ≤ lo) (l1 : lo ≤ 1000) (h0 : -1 ≤ hi) (h1 : hi ≤ 1000) (HR : RdAny w rd A n c) :
    Calls Try.prog 120 #[.pointer (some ⟨rd, 0, none⟩), .int .i64 lo, .int .i64 hi] w (RdPost In64 rd A n c w) := by
  have R := Lib.hid HR
  clear HR
  go_enter Try.func120, Try.ntmps120
  go_wp2_with fail
  refine (below_any 8 rd A n c _ hn (by omega) R.out).mono ?_
  rintro e w1 ⟨b, ⟨b0, b1⟩, rfl, hr, hg⟩
  have R1 := Lib.hid hr
  have G1 := Lib.hid hg
  clear hr hg
  by_cases e0 : b = 0
  · have t0 : (b == 0) = true := by simpa using e0
    clear e0
    go_wp2
    go_ret
    exact ⟨lo, (by unfold In64; omega), rfl, R1.out, G1.out⟩
  · have t0 : (b == 0) = false := by simpa using e0
    clear e0
    by_cases e1 : b = 1
    · have t1 : (b == 1) = true := by simpa using e1
      clear e1
      go_wp2
      go_ret
      exact ⟨hi, (by unfold In64; omega), rfl, R1.out, G1.out⟩
    · have t1 : (b == 1) = false := by simpa using e1
      clear e1
      by_cases hl : hi < lo
      · go_wp2
        go_ret
        exact ⟨lo, (by unfold In64; omega), rfl, R1.out, G1.out⟩
      · go_wp2_with fail
        refine (word_any rd A n c _ hn R1.out).mono ?_
        rintro e w2 ⟨d, d0, rfl, hr, hg⟩
        have R2 := Lib.hid hr
        have G2 := Lib.hid hg
        clear hr hg
        have hne : ¬ (IntKind.u64.wrap (wrap64 (hi - lo + 1)) = 0) := divL_ok (by omega) l0 l1 h0 h1
        go_wp2
        go_ret
        exact ⟨_, wrap64_bounds _, rfl, R2.out, grown_trans G1.out G2.out⟩


set_option maxHeartbeats 2000000 in
theorem offL_any (lo hi : Int) (rd : Nat) (A : Option Addr) (n c : Nat) (w : World) (hn : n ≤ 1099511627776) (l0 : -1 ≤ lo) (l1 : lo ≤ 1000) (h0 : -1 ≤ hi) (h1 : hi ≤ 1000) (HR : RdAny w rd A n c) :
    Calls Try.prog 80 #[.pointer (some ⟨rd, 0, none⟩), .int .i64 lo, .int .i64 hi] w (RdPost In64 rd A n c w) := by
  have R := Lib.hid HR
  clear HR
  go_enter Try.func80, Try.ntmps80
  go_wp2_with fail
  refine (once_any 24 rd A n c _ hn (by omega) (by omega) R.out).mono ?_
  rintro e w1 ⟨b, rfl, hr, hg⟩
  have R1 := Lib.hid hr
  have G1 := Lib.hid hg
  have hlt := hr.lt
  clear hr hg
  cases b with
  | false =>
    go_wp2_with fail
    refine (nearL_any lo hi rd A n c _ hn l0 l1 h0 h1 R1.out).mono ?_
    rintro e w2 ⟨d, hd, rfl, hr, hg⟩
    have HD := Lib.hid hd
    have R2 := Lib.hid hr
    have G2 := Lib.hid hg
    clear hr hg hd
    go_wp2
    go_ret
    exact ⟨d, HD.out, rfl, R2.out, grown_trans G1.out G2.out⟩
  | true =>
    go_wp2_with fail
    refine (below_any 4 rd A n c _ hn (by omega) (R1.out.bl (Bl.alloc_ (Bl.refl w1) _))).mono ?_
    rintro e w2 ⟨d, ⟨d0, d1⟩, rfl, hr, hg⟩
    have R2 := Lib.hid hr
    have G2 := Lib.hid hg
    obtain ⟨c0, c1, c2, c3⟩ := four_cell hg hlt
    clear hr hg
    have hd : d = 0 ∨ d = 1 ∨ d = 2 ∨ d = 3 := by omega
    have GG := Lib.hid (grown_trans (G1.out) (grown_trans (bl_grown (Bl.alloc_ (Bl.refl w1) _) _) G2.out))
    rcases hd with rfl | rfl | rfl | rfl
    · go_wp2
      go_ret
      exact ⟨_, (by first | (unfold In64; omega) | exact wrap64_bounds _), rfl, R2.out, GG.out⟩
    · go_wp2
      go_ret
      exact ⟨_, (by first | (unfold In64; omega) | exact wrap64_bounds _), rfl, R2.out, GG.out⟩
    · go_wp2
      go_ret
      exact ⟨_, (by first | (unfold In64; omega) | exact wrap64_bounds _), rfl, R2.out, GG.out⟩
    · go_wp2
      go_ret
      exact ⟨_, (by first | (unfold In64; omega) | exact wrap64_bounds _), rfl, R2.out, GG.out⟩

end Go.Proofs.Ytffjpfanmnkmgaa

set_option linter.unusedSimpArgs false
set_option linter.unusedVariables false
namespace Go.Proofs.Ytffjpfanmnkmgaa
open Go.RowKit

/-- A change that is made to blocks of K alone, and to new ones; what of them is still held is K'. -/
def Step (K K' : Nat → Prop) (w w' : World) : Prop := Turn K w w' ∧ ∀ i, K' i → K i ∨ w.heap.size ≤ i
theorem Step.refl (K : Nat → Prop) (w : World) : Step K K w w := ⟨Turn.refl _ _, fun i h => .inl h⟩
theorem Step.trans {K1 K2 K3 : Nat → Prop} {a b c : World} (h : Step K1 K2 a b) (k : Step K2 K3 b c) : Step K1 K3 a c :=
  ⟨h.1.trans k.1 (fun i hi h2 => (h.2 i h2).resolve_right (by omega)), fun i hi => by
    rcases k.2 i hi with h' | h'
    · exact h.2 i h'
    · exact .inr (Nat.le_trans h.1.size h')⟩
theorem Step.out {K K' : Nat → Prop} {w w' : World} (h : Step K K' w w') {i : Nat} (hi : i < w.heap.size) (hn : ¬ K i) : ¬ K' i := fun h' => (h.2 i h').elim hn (by omega)

/-- The contract of an iterator. J: what its caller holds between two rounds, and the blocks that it holds it in: of these the iterator turns none. Jx: the same where a round has said that it wants no more. -/
def SeqT {α : Type} (P : Program) (gf : Nat) (lb : Array Value) (encs : α → Array Value) (Pre : List α → α → Prop) (S Sp : List α → Prop) (In : Nat → Prop) (w0 : World) : Prop :=
  ∀ (l : Nat) (J Jx : List α → (Nat → Prop) → World → Prop) (K : Nat → Prop) (W : World), Bl w0 W → (∀ i, K i → ¬ In i) →
    (∀ pre K A B, J pre K A → Turn (fun i => ¬ K i) A B → J pre K B) →
    (∀ pre K A B, Jx pre K A → Turn (fun i => ¬ K i) A B → Jx pre K B) →
    (∀ pre K A, J pre K A → ∀ i, K i → i < A.heap.size) →
    (∀ pre x K W1, J pre K W1 → Pre pre x → YieldAt Fence.wide 0 P l (encs x) W1 fun e W' => ∃ K', Step K K' W1 W' ∧
      ((e = .returned (.bool true) ∧ J (pre ++ [x]) K' W') ∨ (e = .returned (.bool false) ∧ Jx (pre ++ [x]) K' W'))) →
    J [] K W →
    CallsIn Fence.wide 0 P gf (#[.func (.yield l) #[] #[]] ++ lb) W fun e W' => (∃ v, e = .returned v) ∧ ∃ K', Step K K' W W' ∧ ((∃ xs, S xs ∧ J xs K' W') ∨ (∃ pre, Sp pre ∧ Jx pre K' W'))

/-- How the body of a round may be left. -/
def turnPost {α : Type} (I : List α → (Nat → Prop) → World → Prop) (Ix : Code → List α → (Nat → Prop) → World → Prop) (K : Nat → Prop) (xs : List α) (W : World) : Exit → Act → World → Prop
  | .normal, _, W' => ∃ K', Step K K' W W' ∧ I xs K' W'
  | .ret, _, W' => ∃ K', Step K K' W W' ∧ Ix .ret xs K' W'
  | .exit id, _, W' => ∃ K', Step K K' W W' ∧ Ix (.exit id) xs K' W'
  | .goto t, _, W' => ∃ K', Step K K' W W' ∧ Ix (.goto t) xs K' W'
  | .panic _, _, _ => False
  | .outgrown, _, _ => False

theorem turn_put (S : Nat → Prop) (W : World) {l : Nat} (o : Obj) (hl : S l) : Turn S W (W.putObj l o) :=
  Turn.of_grown (grownBy_putObj' W l o) (fun k e => by cases e; exact hl)

/-- The blocks of the caller, without the two of the statement's own. -/
def less2 (K : Nat → Prop) (l D : Nat) (i : Nat) : Prop := K i ∧ i ≠ l ∧ i ≠ D
def more2 (K : Nat → Prop) (l D : Nat) (i : Nat) : Prop := K i ∨ i = l ∨ i = D
theorem less_more {K : Nat → Prop} {l D : Nat} (hl : ¬ K l) (hD : ¬ K D) : less2 (more2 K l D) l D = K := by
  funext i
  apply propext
  unfold less2 more2
  constructor
  · rintro ⟨h | h | h, h1, h2⟩
    · exact h
    · exact absurd h h1
    · exact absurd h h2
  · intro h
    exact ⟨.inl h, fun e => hl (e ▸ h), fun e => hD (e ▸ h)⟩

variable {P : Program}
set_option maxHeartbeats 1000000 in
theorem wpIn_range {α : Type} {g : Operand} {ps : Array Tmp} {assign body : Code} {Q : Exit → Act → World → Prop} {a : Act} {w : World} {gf : Nat} {lb : Array Value}
    (hg : a.eval g = .func (.func gf) #[] lb) (eg : ∀ args w, (callFunc gf args).run P w = .ok (.enter gf args) w)
    {encs : α → Array Value} {Pre : List α → α → Prop} {S Sp : List α → Prop} {In : Nat → Prop} {w0 : World} (hseq : SeqT P gf lb encs Pre S Sp In w0) (hb0 : Bl w0 w) (hIn : ∀ i, In i → i < w.heap.size) (hps : ∀ x, (encs x).size = ps.size)
    (I : List α → (Nat → Prop) → World → Prop) (Ix : Code → List α → (Nat → Prop) → World → Prop) (M : List α → α → Act → (Nat → Prop) → World → Prop) (K0 : Nat → Prop) (hK0 : ∀ i, K0 i → ¬ In i)
    (hI : ∀ pre K A B, I pre K A → Turn (fun i => ¬ K i) A B → I pre K B) (hIx : ∀ c pre K A B, Ix c pre K A → Turn (fun i => ¬ K i) A B → Ix c pre K B)
    (hM : ∀ pre x a K A B, M pre x a K A → Turn (fun i => ¬ K i) A B → M pre x a K B)
    (hlt : ∀ pre K A, I pre K A → ∀ i, K i → i < A.heap.size) (h0 : I [] K0 w)
    (hassign : ∀ (l : Nat) (pre : List α) (x : α) (K : Nat → Prop) (W : World) (R : Act → World → Prop), I pre K W → Pre pre x → (∀ a₁ K1 W1, Step K K1 W W1 → M pre x a₁ K1 W1 → R a₁ W1) →
      assign.wpIn (Fence.wide.inRound l) 0 P (Exit.then R (fun _ _ _ => False)) { tmps := (ps.zip (encs x)).foldl (fun t (p, v) => t.setIfInBounds p v) a.tmps, defers := [] } W)
    (hbody : ∀ (l : Nat) (pre : List α) (x : α) (a₁ : Act) (K : Nat → Prop) (W : World), M pre x a₁ K W → Pre pre x → body.wpIn (Fence.wide.inRound l) 0 P (turnPost I Ix K (pre ++ [x]) W) a₁ W)
    (hdone : ∀ (D : Nat) (xs : List α) (K : Nat → Prop) (W : World), w.heap.size ≤ D → S xs → I xs K W → Turn K0 w W → ¬ K D → W.heap[D]? = some (.deferred (some [])) → Q .normal { a with defers := { target := .collected D, args := #[] } :: a.defers } W)
    (hstop : ∀ (D : Nat) (c : Code) (pre : List α) (K : Nat → Prop) (W : World), w.heap.size ≤ D → Sp pre → Ix c pre K W → Turn K0 w W → ¬ K D → W.heap[D]? = some (.deferred (some [])) → c.wpIn Fence.wide 0 P Q { a with defers := { target := .collected D, args := #[] } :: a.defers } W) :
    (Code.rangeFunc g ps assign body).wpIn Fence.wide 0 P Q a w := by
  refine wpIn_rangeFunc fun fn hfn => ?_
  obtain ⟨rec, hrec⟩ : ∃ rec : LoopState → Option Code → Loop, rec = fun st pe => { state := st, pending := pe, fn, tmps := a.tmps, params := ps, assign, body, defers := w.heap.size } := ⟨_, rfl⟩
  generalize hlD : w.heap.size + 1 = l
  generalize hDD : w.heap.size = D
  have hk0 := hlt [] K0 w h0
  have hKl : ¬ K0 l := fun h => by have := hk0 l h; omega
  have hKD : ¬ K0 D := fun h => by have := hk0 D h; omega
  obtain ⟨W1, hW1⟩ : ∃ W1, W1 = (w.alloc (.deferred (some []))).alloc (.loop (rec .ready none)) := ⟨_, rfl⟩
  have hrl : W1.heap[l]? = some (.loop (rec .ready none)) := by
    have := World.alloc_heap_new (w.alloc (.deferred (some []))) (.loop (rec .ready none))
    rwa [World.size_alloc, hlD, ← hW1] at this
  have hrD : W1.heap[D]? = some (.deferred (some [])) := by
    have h1 := Below.heap_alloc (w.alloc (.deferred (some []))) (.loop (rec .ready none)) D (by simp; omega)
    rw [hW1, h1, ← hDD]
    exact World.alloc_heap_new w _
  have hB1 : Bl w W1 := by rw [hW1]; exact ((Bl.refl w).alloc_ _).alloc_ _
  have hs1 : W1.heap.size = w.heap.size + 2 := by rw [hW1]; simp
  obtain ⟨J, hJ⟩ : ∃ J : List α → (Nat → Prop) → World → Prop, J = fun pre K W => I pre (less2 K l D) W ∧ (K l ∧ K D) ∧ W.heap[l]? = some (.loop (rec .ready none)) ∧ W.heap[D]? = some (.deferred (some [])) := ⟨_, rfl⟩
  obtain ⟨Jx, hJx⟩ : ∃ Jx : List α → (Nat → Prop) → World → Prop, Jx = fun pre K W => ∃ c, Ix c pre (less2 K l D) W ∧ (K l ∧ K D) ∧ W.heap[l]? = some (.loop (rec .done (some c))) ∧ W.heap[D]? = some (.deferred (some [])) := ⟨_, rfl⟩
  have wider : ∀ {K : Nat → Prop} {A B : World}, Turn (fun i => ¬ K i) A B → Turn (fun i => ¬ less2 K l D i) A B := fun h => h.more fun i _ hi h' => hi h'.1
  have old : ∀ {K : Nat → Prop} {A B : World} {i : Nat} {o : Obj}, Turn (fun i => ¬ K i) A B → K i → A.heap[i]? = some o → B.heap[i]? = some o := fun h hi ho =>
    (h.block _ (Array.getElem?_eq_some_iff.1 ho).1 (fun h' => h' hi)).trans ho
  refine ⟨l, [{ target := .collected D, args := #[] }], W1, { target := .fn (.func gf) lb, args := #[.func (.yield l) #[] #[]] }, W1, gf, #[.func (.yield l) #[] #[]] ++ lb, W1, ?_, ?_, fun _ _ => trivial, by simp [invoke, go_sem, eg], fun h => by simp [Fence.wide] at h, ?_⟩
  · have := run_enterLoop_outer (P := P) (w := w) fn a.tmps ps assign body
    rw [hW1, hrec, ← hlD, ← hDD]
    exact this
  · simp only [resolve, hg]
    simp [go_sem]
  · refine (hseq l J Jx (more2 K0 l D) W1 (hb0.trans_ hB1) (fun i hi h => by
      have := hIn i h
      rcases hi with hi | hi | hi
      · exact hK0 i hi h
      · omega
      · omega) ?_ ?_ ?_ ?_ ?_).mono ?_
    · rintro pre K A B hj ht
      rw [hJ] at hj ⊢
      exact ⟨hI _ _ _ _ hj.1 (wider ht), hj.2.1, old ht hj.2.1.1 hj.2.2.1, old ht hj.2.1.2 hj.2.2.2⟩
    · rintro pre K A B hj ht
      rw [hJx] at hj ⊢
      obtain ⟨c, h1, h2, h3, h4⟩ := hj
      exact ⟨c, hIx _ _ _ _ _ h1 (wider ht), h2, old ht h2.1 h3, old ht h2.2 h4⟩
    · rintro pre K A hj i hi
      rw [hJ] at hj
      by_cases e1 : i = l
      · subst e1; exact (Array.getElem?_eq_some_iff.1 hj.2.2.1).1
      · by_cases e2 : i = D
        · subst e2; exact (Array.getElem?_eq_some_iff.1 hj.2.2.2).1
        · exact hlt _ _ _ hj.1 i ⟨hi, e1, e2⟩
    · rintro pre x K W hj hpre
      rw [hJ] at hj
      obtain ⟨hi, ⟨hkl, hkD⟩, hl, hd⟩ := hj
      have hll : l < W.heap.size := (Array.getElem?_eq_some_iff.1 hl).1
      have hne : D ≠ l := by omega
      have hy := run_yield (P := P) (args := encs x) hl (by rw [hrec]; exact hps x)
      rw [hrec] at hy
      have hn1 : ¬ less2 K l D l := fun h => h.2.1 rfl
      have hn2 : ¬ less2 K l D D := fun h => h.2.2 rfl
      have hDl : D < W.heap.size := by omega
      refine ⟨fn, _, assign, body, hy, roundIn_of_wpIn hfn (hassign l pre x _ W _ hi hpre fun a₁ K1 Wa hstA hma => ?_)⟩
      have hla := (hstA.1.block l hll hn1).trans hl
      have hda := (hstA.1.block D hDl hn2).trans hd
      have hlla : l < Wa.heap.size := (Array.getElem?_eq_some_iff.1 hla).1
      have hk1 : ¬ K1 l := hstA.out hll hn1
      have hk2 : ¬ K1 D := hstA.out hDl hn2
      refine ⟨_, run_beginRound hla (by rw [hrec]), ?_⟩
      obtain ⟨W2, hW2⟩ : ∃ W2, W2 = Wa.putObj l (.loop { rec .ready none with state := .busy }) := ⟨_, rfl⟩
      rw [← hW2]
      have hl2 : W2.heap[l]? = some (.loop { rec .ready none with state := .busy }) := by rw [hW2]; exact World.putObj_heap_same hlla
      have hd2 : W2.heap[D]? = some (.deferred (some [])) := by rw [hW2]; exact (World.putObj_heap_other hne).trans hda
      have hs2 : W2.heap.size = Wa.heap.size := by rw [hW2]; simp
      have hi2 : M pre x a₁ K1 W2 := by rw [hW2]; exact hM _ _ _ _ _ _ hma (turn_put _ _ _ hk1)
      have t2 : Turn K W W2 := by
        rw [hW2]
        exact (hstA.1.more fun i _ h => h.1).trans (turn_put (fun i => i = l) _ _ rfl) (fun i _ h => by rw [h]; exact hkl)
      have hKK : ∀ i, K1 i → K i ∨ W.heap.size ≤ i := fun i h => (hstA.2 i h).imp (fun h => h.1) id
      have hsA := hstA.1.size
      refine wpIn_mono (hbody l pre x a₁ K1 W2 hi2 hpre) ?_
      -- what the end of a round does
      have fin : ∀ (jump : Option Code) (K' : Nat → Prop) (W3 : World), Step K1 K' W2 W3 →
          (Instr.endRound l jump).run P W3 = .ok (.bool jump.isNone) (W3.putObj l (.loop (rec (if jump.isNone then .ready else .done) jump))) ∧
          Step K (more2 K' l D) W (W3.putObj l (.loop (rec (if jump.isNone then .ready else .done) jump))) ∧ less2 (more2 K' l D) l D = K' ∧ ¬ K' l ∧
          (W3.putObj l (.loop (rec (if jump.isNone then .ready else .done) jump))).heap[l]? = some (.loop (rec (if jump.isNone then .ready else .done) jump)) ∧
          (W3.putObj l (.loop (rec (if jump.isNone then .ready else .done) jump))).heap[D]? = some (.deferred (some [])) := by
        intro jump K' W3 hst
        have hl2' : l < W2.heap.size := by omega
        have hD2' : D < W2.heap.size := by omega
        have hl3 := (hst.1.block l hl2' hk1).trans hl2
        have hd3 := (hst.1.block D hD2' hk2).trans hd2
        have he := run_endRound (P := P) jump hl3
        rw [hrec] at he ⊢
        have hKl' := hst.out hl2' hk1
        have hKD' := hst.out hD2' hk2
        refine ⟨he, ⟨?_, fun i hi => ?_⟩, less_more hKl' hKD', hKl', World.putObj_heap_same (Array.getElem?_eq_some_iff.1 hl3).1, (World.putObj_heap_other hne).trans hd3⟩
        · exact (t2.trans hst.1 (fun i hi h => (hKK i h).resolve_right (by omega))).trans (turn_put (fun i => i = l) _ _ rfl) (fun i _ h => by rw [h]; exact hkl)
        · rcases hi with hi | hi | hi
          · rcases hst.2 i hi with h | h
            · exact hKK i h
            · exact .inr (by omega)
          · exact .inl (hi ▸ hkl)
          · exact .inl (hi ▸ hkD)
      rintro e a3 W3 hp
      cases e with
      | normal =>
        obtain ⟨K', hst, hi3⟩ := hp
        obtain ⟨f1, f2, f3, f4, f5, f6⟩ := fin none K' W3 hst
        refine ⟨_, _, f1, more2 K' l D, f2, .inl ⟨rfl, ?_⟩⟩
        rw [hJ]
        exact ⟨by rw [f3]; exact hI _ _ _ _ hi3 (turn_put _ _ _ f4), ⟨.inr (.inl rfl), .inr (.inr rfl)⟩, f5, f6⟩
      | ret =>
        obtain ⟨K', hst, hi3⟩ := hp
        obtain ⟨f1, f2, f3, f4, f5, f6⟩ := fin (some .ret) K' W3 hst
        refine ⟨_, _, f1, more2 K' l D, f2, .inr ⟨rfl, ?_⟩⟩
        rw [hJx]
        exact ⟨.ret, by rw [f3]; exact hIx _ _ _ _ _ hi3 (turn_put _ _ _ f4), ⟨.inr (.inl rfl), .inr (.inr rfl)⟩, f5, f6⟩
      | exit id =>
        obtain ⟨K', hst, hi3⟩ := hp
        obtain ⟨f1, f2, f3, f4, f5, f6⟩ := fin (some (.exit id)) K' W3 hst
        refine ⟨_, _, f1, more2 K' l D, f2, .inr ⟨rfl, ?_⟩⟩
        rw [hJx]
        exact ⟨.exit id, by rw [f3]; exact hIx _ _ _ _ _ hi3 (turn_put _ _ _ f4), ⟨.inr (.inl rfl), .inr (.inr rfl)⟩, f5, f6⟩
      | goto t =>
        obtain ⟨K', hst, hi3⟩ := hp
        obtain ⟨f1, f2, f3, f4, f5, f6⟩ := fin (some (.goto t)) K' W3 hst
        refine ⟨_, _, f1, more2 K' l D, f2, .inr ⟨rfl, ?_⟩⟩
        rw [hJx]
        exact ⟨.goto t, by rw [f3]; exact hIx _ _ _ _ _ hi3 (turn_put _ _ _ f4), ⟨.inr (.inl rfl), .inr (.inr rfl)⟩, f5, f6⟩
      | panic ch => exact hp.elim
      | outgrown => exact hp.elim
    · rw [hJ]
      exact ⟨by rw [less_more hKl hKD]; exact hI _ _ _ _ h0 (Turn.of_bl hB1), ⟨.inr (.inl rfl), .inr (.inr rfl)⟩, hrl, hrD⟩
    · have back : ∀ {K' : Nat → Prop} {W2 : World} {o : Obj}, Step (more2 K0 l D) K' W1 W2 → Turn K0 w (W2.putObj l o) := fun hst =>
        ((Turn.of_bl (S := K0) hB1).trans hst.1 (fun i hi h => by
          rcases h with h | h | h
          · exact h
          · omega
          · omega)).trans (turn_put (fun i => i = l) _ _ rfl) (fun i hi h => by omega)
      rintro e W2 ⟨⟨v, rfl⟩, K', hst, (⟨xs, hS, hj⟩ | ⟨pre, hSp, hj⟩)⟩
      · rw [hJ] at hj
        obtain ⟨hi, ⟨hkl, hkD⟩, hl, hd⟩ := hj
        have he := run_endLoop (P := P) hl (by rw [hrec]; simp)
        rw [hrec] at he
        refine ⟨none, _, he, hdone D xs (less2 K' l D) _ (by omega) hS (hI _ _ _ _ hi (turn_put _ _ _ fun h => h.2.1 rfl)) (back hst) (fun h => h.2.2 rfl) ((World.putObj_heap_other (by omega)).trans hd)⟩
      · rw [hJx] at hj
        obtain ⟨c, hi, ⟨hkl, hkD⟩, hl, hd⟩ := hj
        have he := run_endLoop (P := P) hl (by rw [hrec]; simp)
        rw [hrec] at he
        refine ⟨some c, _, he, hstop D c pre (less2 K' l D) _ (by omega) hSp (hIx _ _ _ _ _ hi (turn_put _ _ _ fun h => h.2.1 rfl)) (back hst) (fun h => h.2.2 rfl) ((World.putObj_heap_other (by omega)).trans hd)⟩

end Go.Proofs.Ytffjpfanmnkmgaa
