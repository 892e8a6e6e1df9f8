/-
  What is proved here: the reader of a code draws a graph in new memory; graphs and nodes that are drawn by a code; a graph and a few unlike nodes that are drawn by a code; the laws' small functions that hold lists and graphs against each other, and ask for nodes. No conditions beyond those that each theorem states.
-/
import Derived.Test.YtlddileiecnkjaaV5G16
import Derived.Test.YtlddileiecnkjaaV5RB
import Derived.Test.YtlddileiecnkjaaV5G12
import Derived.Test.YtlddileiecnkjaaV5G11
import Derived.Deep.RegionLaw
set_option linter.unusedSimpArgs false
set_option linter.unusedVariables false
namespace Go.Proofs.Ytlddileiecnkjaa
open Go.RowKit

/-- A drawn graph: some number of nodes, some arcs, in new memory. -/
def Drawn (B : Nat) (w' : World) (N : Int) (A' : Option Addr) (l c' : Nat) (L : List Arc3) : Prop :=
  l = L.length ∧ l ≤ 200 ∧ In64 N ∧ OwnA w' B (.slice A' l c') L
/-- What the drawing of a graph leaves. -/
def GraphDrawn (rd : Nat) (A : Option Addr) (n c : Nat) (w : World) (e : Ending) (w' : World) : Prop :=
  ∃ (N : Int) (A' : Option Addr) (l c' : Nat) (L : List Arc3), e = .returned (.agg #[.int .i64 N, .slice A' l c']) ∧ Drawn w.heap.size w' N A' l c' L ∧ RdAny w' rd A n c ∧ w.grownBy w' (some rd)

theorem RdAny.set_ {w : World} {rd : Nat} {A : Option Addr} {n c : Nat} (h : RdAny w rd A n c) {p : Addr} (hp : p.block ≠ rd) (hA : 0 < n → ∀ g off, A = some ⟨g, off, none⟩ → g ≠ p.block) (u : Value) : RdAny (w.setCell p u) rd A n c := by
  obtain ⟨q, hr, hq, hc⟩ := h
  refine ⟨q, World.rowIs.setOther hr (fun e => hp e.symm) u, hq, fun h0 => ?_⟩
  obtain ⟨g, off, e, hne, hlt, hcell⟩ := hc h0
  refine ⟨g, off, e, hne, by rw [World.size_setCell]; exact hlt, fun j hj => ?_⟩
  obtain ⟨b, h1, h2⟩ := hcell j hj
  exact ⟨b, by rw [World.cell?_setCell_other _ _ _ _ (fun e' => hA h0 g off e (by rw [e']))]; exact h1, h2⟩

/-- The state while a graph is drawn: the graph's box at gb, the result's box at g0. -/
structure GS (w : World) (rd : Nat) (A : Option Addr) (n c g0 gb : Nat) (N0 : Int) (q : Value) (L : List Arc3) (wr : World) : Prop where
  box : Two wr gb (.int .i64 N0) q
  res : Two wr g0 (.int .i64 0) (.slice none 0 0)
  own : OwnA wr (gb + 1) q L
  rdr : RdAny wr rd A n c
  grw : w.grownBy wr (some rd)
  lo1 : w.heap.size ≤ g0
  lo2 : g0 < gb
  rlt : rd < w.heap.size
  alt : 0 < n → ∀ g off, A = some ⟨g, off, none⟩ → g < w.heap.size
section
variable {w wr w2 : World} {rd : Nat} {A : Option Addr} {n c g0 gb : Nat} {N0 : Int} {q : Value} {L : List Arc3}
theorem GS.rd_ (h : GS w rd A n c g0 gb N0 q L wr) (hr : RdAny w2 rd A n c) (hg : wr.grownBy w2 (some rd)) : GS w rd A n c g0 gb N0 q L w2 := by
  have h1 := h.lo1; have h2 := h.lo2; have h3 := h.rlt
  exact ⟨h.box.grown_ hg (fun e => by injection e with e; omega), h.res.grown_ hg (fun e => by injection e with e; omega), h.own.grown_ hg (fun g e => by injection e with e; omega), hr, grown_trans h.grw hg, h1, h2, h3, h.alt⟩
theorem GS.bl_ (h : GS w rd A n c g0 gb N0 q L wr) (hb : Bl wr w2) : GS w rd A n c g0 gb N0 q L w2 :=
  ⟨h.box.bl hb, h.res.bl hb, h.own.bl hb, h.rdr.bl hb, grown_trans h.grw (bl_grown hb _), h.lo1, h.lo2, h.rlt, h.alt⟩
theorem GS.put (h : GS w rd A n c g0 gb N0 q L wr) {q2 : Value} {L2 : List Arc3} (ho : OwnA wr (gb + 1) q2 L2) : GS w rd A n c g0 gb N0 q2 L2 (wr.setCell ⟨gb, 1, none⟩ q2) := by
  have h1 := h.lo1; have h2 := h.lo2; have h3 := h.rlt
  exact ⟨h.box.set1 _, h.res.far (by show g0 ≠ gb; omega) _, ho.set_ (by show gb < gb + 1; omega) _, h.rdr.set_ (by show gb ≠ rd; omega) (fun h0 g off e => by have := h.alt h0 g off e; show g ≠ gb; omega) _,
    ⟨h.grw.os, h.grw.tape, h.grw.output, by rw [World.size_setCell]; exact h.grw.size, fun i hi hne => (Below.heap_setCell wr ⟨gb, 1, none⟩ q2 i (by show i ≠ gb; omega)).trans (h.grw.block i hi hne)⟩, h1, h2, h3, h.alt⟩
theorem GS.num (h : GS w rd A n c g0 gb N0 q L wr) (N1 : Int) : GS w rd A n c g0 gb N1 q L (wr.setCell ⟨gb, 0, none⟩ (.int .i64 N1)) := by
  have h1 := h.lo1; have h2 := h.lo2; have h3 := h.rlt
  exact ⟨h.box.set0 _, h.res.far (by show g0 ≠ gb; omega) _, h.own.set_ (by show gb < gb + 1; omega) _, h.rdr.set_ (by show gb ≠ rd; omega) (fun h0 g off e => by have := h.alt h0 g off e; show g ≠ gb; omega) _,
    ⟨h.grw.os, h.grw.tape, h.grw.output, by rw [World.size_setCell]; exact h.grw.size, fun i hi hne => (Below.heap_setCell wr ⟨gb, 0, none⟩ _ i (by show i ≠ gb; omega)).trans (h.grw.block i hi hne)⟩, h1, h2, h3, h.alt⟩
theorem GS.fin {A' : Option Addr} {l c' : Nat} (h : GS w rd A n c g0 gb N0 (.slice A' l c') L wr) (h0 : In64 N0) (hl : L.length ≤ 200) (x y : Value) :
    GraphDrawn rd A n c w (.returned (.agg #[.int .i64 N0, .slice A' l c'])) ((wr.setCell ⟨g0, 0, none⟩ x).setCell ⟨g0, 1, none⟩ y) := by
  have h1 := h.lo1; have h2 := h.lo2; have h3 := h.rlt
  obtain ⟨AA, cc, hq, _, _⟩ := h.own.shape
  injection hq with _ e2 _
  refine ⟨N0, A', l, c', L, rfl, ⟨e2, by omega, h0, ((h.own.set_ (by show g0 < gb + 1; omega) _).set_ (by show g0 < gb + 1; omega) _).low (by omega)⟩,
    (h.rdr.set_ (by show g0 ≠ rd; omega) (fun h0 g off e => by have := h.alt h0 g off e; show g ≠ g0; omega) _).set_ (by show g0 ≠ rd; omega) (fun h0 g off e => by have := h.alt h0 g off e; show g ≠ g0; omega) _,
    ⟨h.grw.os, h.grw.tape, h.grw.output, by rw [World.size_setCell, World.size_setCell]; exact h.grw.size, fun i hi hne => (Below.heap_setCell _ ⟨g0, 1, none⟩ y i (by show i ≠ g0; omega)).trans ((Below.heap_setCell wr ⟨g0, 0, none⟩ x i (by show i ≠ g0; omega)).trans (h.grw.block i hi hne))⟩⟩
end

set_option maxRecDepth 100000 in
set_option maxHeartbeats 8000000 in
theorem graph_any (most : Int) (rd : Nat) (A : Option Addr) (n c : Nat) (w : World) (hn : n ≤ 1099511627776) (m0 : 2 ≤ most) (m1 : most ≤ 16) (HR : RdAny w rd A n c) (HA : 0 < n → ∀ g off, A = some ⟨g, off, none⟩ → g < w.heap.size) :
    Calls Try.prog 77 #[.pointer (some ⟨rd, 0, none⟩), .int .i64 most] w (GraphDrawn rd A n c w) := by
  have R := Lib.hid HR
  have AL := Lib.hid HA
  have hlt := HR.lt
  clear HR HA
  go_enter Try.func77, Try.ntmps77
  go_wp2_with fail
  refine (below_any most rd A n c _ hn (by omega) (R.out.bl (Bl.alloc_ (Bl.refl w) _))).mono ?_
  rintro e w1 ⟨b, hb, rfl, hr, hg⟩
  have b0 : 0 ≤ b := hb.1
  have b1 : b < most := by omega
  have hs1 : w.heap.size + 1 ≤ w1.heap.size := by have := hg.size; simpa using this
  have GS0 := Lib.hid (show GS w rd A n c w.heap.size w1.heap.size (1 + b) (.slice none 0 0) [] (w1.alloc (.cells #[.int .i64 (1 + b), .slice none 0 0] 33)) from
    ⟨Two.new _ _ _, Two.bl ((Two.new w _ _).grown_ hg (fun e => by injection e with e; omega)) (Bl.alloc_ (Bl.refl _) _), OwnA.nil_ _ _, hr.bl (Bl.alloc_ (Bl.refl _) _),
      grown_trans (grown_trans (bl_grown (Bl.alloc_ (Bl.refl w) _) _) hg) (bl_grown (Bl.alloc_ (Bl.refl w1) _) _), Nat.le_refl _, by omega, hlt, AL.out⟩)
  obtain ⟨gb, hgb⟩ : ∃ gb, gb = w1.heap.size := ⟨_, rfl⟩
  clear hr hg hb
  go_wp2_with fail
  rw [← hgb] at GS0 ⊢
  refine (once_any 4 rd A n c _ hn (by omega) (by omega) GS0.out.rdr).mono ?_
  rintro e w2 ⟨tst, rfl, hr, hg⟩
  have GS1 := Lib.hid (GS0.out.rd_ hr hg)
  clear hr hg hgb hs1 GS0
  cases tst with
  | true =>
    have hL0 : ([] : List Arc3).length ≤ 32 := by simp
    obtain ⟨c0, c1, f0, f1⟩ := GS1.out.box.facts
    go_wp2_with fail
    refine (below_any 8 rd A n c _ hn (by omega) GS1.out.rdr).mono ?_
    rintro e w5 ⟨y, hy, rfl, hr, hg⟩
    have y0 : 0 ≤ y := hy.1
    have y1 : y < 8 := by have := hy.2; omega
    have T := Lib.hid (GS1.out.rd_ hr hg)
    clear hy hr hg c0 c1 f0 f1 GS1
    go_wp2_with fail
    go_loopw [9] (fun i wr => ∃ (m : Int) (q : Value) (L : List Arc3), 0 ≤ m ∧ m ≤ 7 ∧ i = .int .i64 m ∧ (L.length : Int) + m ≤ 40 ∧ GS w rd A n c w.heap.size gb (1 + b) q L wr) (fun i _ => (intOf i).toNat)
    case atStart => exact ⟨y, _, _, y0, by omega, rfl, by first | omega | (simp; omega), T.out⟩
    case round =>
      clear T hL0
      obtain ⟨m, q2, L2, mm0, m7, rfl, hL2, hS2⟩ := hrel
      have U := Lib.hid hS2
      clear hS2
      obtain ⟨c0, c1, f0, f1⟩ := U.out.box.facts
      by_cases e1 : 0 < m
      · by_cases e2 : 1 < 1 + b
        · go_wp2_with fail
          refine (below_any (1 + b) rd A n c _ hn (by omega) U.out.rdr).mono ?_
          rintro e w6 ⟨u, hu, rfl, hr, hg⟩
          have u0 : 0 ≤ u := hu.1
          have u1 : u < 16 := by have := hu.2; omega
          have U1 := Lib.hid (U.out.rd_ hr hg)
          clear hu hr hg c0 c1 f0 f1 U
          obtain ⟨c0, c1, f0, f1⟩ := U1.out.box.facts
          go_wp2_with fail
          refine (below_any (1 + b) rd A n c _ hn (by omega) U1.out.rdr).mono ?_
          rintro e w7 ⟨v, hv, rfl, hr, hg⟩
          have v0 : 0 ≤ v := hv.1
          have v1 : v < 16 := by have := hv.2; omega
          have U2 := Lib.hid (U1.out.rd_ hr hg)
          clear hv hr hg c0 c1 f0 f1 U1
          obtain ⟨AA, cc, rfl, hAA, _⟩ := U2.out.own.shape
          clear hAA
          obtain ⟨c0, c1, f0, f1⟩ := U2.out.box.facts
          by_cases e3 : (u != v) = true
          · go_wp2_with fail
            go_region_with (first
              | (go_at_call 70; refine (below_any 12 rd A n c _ hn (by omega) ((U2.out.bl_ (by repeat' (first | exact Bl.refl _ | with_reducible assumption | with_reducible refine Bl.drew_ ?_ | with_reducible refine Bl.drewN_ ?_ _ | with_reducible refine Bl.alloc_ ?_ _ | with_reducible refine Bl.trans_ ?_ (by assumption) | with_reducible refine Bl.trans_ ?_ (And.left (by assumption))))).rdr)).mono ?_; rintro e w8 ⟨z, hz, rfl, hr, hg⟩; have z0 : 0 ≤ z := hz.1; have z1 : z < 12 := (by have := hz.2; omega); have U3 := Lib.hid ((U2.out.bl_ (by repeat' (first | exact Bl.refl _ | with_reducible assumption | with_reducible refine Bl.drew_ ?_ | with_reducible refine Bl.drewN_ ?_ _ | with_reducible refine Bl.alloc_ ?_ _ | with_reducible refine Bl.trans_ ?_ (by assumption) | with_reducible refine Bl.trans_ ?_ (And.left (by assumption))))).rd_ hr hg); clear hz hr hg; obtain ⟨d0, d1, k0, k1⟩ := U3.out.box.facts)
              | (go_at_call 123; obtain ⟨_, _, hq, hAA, _⟩ := U3.out.own.shape; injection hq with q1 _ q3; subst q1; subst q3; refine (l1Put_any _ _ _ _ _ _ L2 rfl _ (by omega) hAA).mono ?_; rintro e w9 ⟨v4, rfl, ho, hb⟩; obtain ⟨AB, cb, rfl, _, _⟩ := ho.shape; have P := putL_len (u, v, 1 + z) L2; have U4 := Lib.hid ((U3.out.bl_ hb).put (ho.low (World.rowIs.lt U3.out.box))); clear d0 d1 k0 k1; obtain ⟨d0, d1, k0, k1⟩ := (U3.out.bl_ hb).box.facts; clear hAA ho hb))
            all_goals (go_wp2; go_roundw)
            all_goals (first | (case measure => (simp [intOf]; omega)) | skip)
            all_goals (refine ⟨m - 1, .slice AB (putL (u, v, 1 + z) L2).length cb, putL (u, v, 1 + z) L2, by omega, by omega, by go_num, by omega, by have hw : IntKind.i64.wrap (1 + z) = 1 + z := IntWalk.i64_in _ (by omega); have X := U4.out; rw [hw] at X; exact X⟩)
          · have e3' : (u != v) = false := by simpa using e3
            clear e3
            go_wp2_with fail
            go_roundw
            case rel => exact ⟨m - 1, _, L2, by omega, by omega, by go_num, by omega, U2.out⟩
            case measure => simp [intOf]; omega
        · skip
          obtain ⟨AV, cv, rfl, hAV, _⟩ := U.out.own.shape
          clear hAV
          go_wp2_with fail
          refine (once_any 60 rd A n c _ hn (by omega) (by omega) U.out.rdr).mono ?_
          rintro e w8 ⟨t3, rfl, hr, hg⟩
          have V := Lib.hid (U.out.rd_ hr hg)
          clear hr hg c0 c1 f0 f1 U
          cases t3 with
          | true =>
            go_wp2_with fail
            refine (off_any 1 24 rd A n c _ hn (by omega) (by omega) (by omega) (by omega) V.out.rdr).mono ?_
            rintro e w9 ⟨N9, hN9, rfl, hr, hg⟩
            have W := Lib.hid (V.out.rd_ hr hg)
            obtain ⟨c0, c1, f0, f1⟩ := W.out.box.facts
            obtain ⟨r0, r1, fr0, fr1⟩ := W.out.res.facts
            have nb : gb ≠ w.heap.size := by have := W.out.lo2; omega
            have nb' : w.heap.size ≠ gb := by omega
            go_wp2
            refine bodyPost_ret (v := .agg #[.int .i64 N9, .slice AV L2.length cv]) (by simp [results, Try.results77, go_sem, r0, r1, fr0, fr1, nb, nb']) rfl ?_
            exact GS.fin (W.out.num N9) hN9 (by omega) _ _
          | false =>
            obtain ⟨c0, c1, f0, f1⟩ := V.out.box.facts
            obtain ⟨r0, r1, fr0, fr1⟩ := V.out.res.facts
            have nb : gb ≠ w.heap.size := by have := V.out.lo2; omega
            have nb' : w.heap.size ≠ gb := by omega
            go_wp2
            refine bodyPost_ret (v := .agg #[.int .i64 (1 + b), .slice AV L2.length cv]) (by simp [results, Try.results77, go_sem, r0, r1, fr0, fr1, nb, nb']) rfl ?_
            exact GS.fin (V.out) ⟨by omega, by omega⟩ (by omega) _ _
      · skip
        obtain ⟨AV, cv, rfl, hAV, _⟩ := U.out.own.shape
        clear hAV
        go_wp2_with fail
        refine (once_any 60 rd A n c _ hn (by omega) (by omega) U.out.rdr).mono ?_
        rintro e w8 ⟨t3, rfl, hr, hg⟩
        have V := Lib.hid (U.out.rd_ hr hg)
        clear hr hg c0 c1 f0 f1 U
        cases t3 with
        | true =>
          go_wp2_with fail
          refine (off_any 1 24 rd A n c _ hn (by omega) (by omega) (by omega) (by omega) V.out.rdr).mono ?_
          rintro e w9 ⟨N9, hN9, rfl, hr, hg⟩
          have W := Lib.hid (V.out.rd_ hr hg)
          obtain ⟨c0, c1, f0, f1⟩ := W.out.box.facts
          obtain ⟨r0, r1, fr0, fr1⟩ := W.out.res.facts
          have nb : gb ≠ w.heap.size := by have := W.out.lo2; omega
          have nb' : w.heap.size ≠ gb := by omega
          go_wp2
          refine bodyPost_ret (v := .agg #[.int .i64 N9, .slice AV L2.length cv]) (by simp [results, Try.results77, go_sem, r0, r1, fr0, fr1, nb, nb']) rfl ?_
          exact GS.fin (W.out.num N9) hN9 (by omega) _ _
        | false =>
          obtain ⟨c0, c1, f0, f1⟩ := V.out.box.facts
          obtain ⟨r0, r1, fr0, fr1⟩ := V.out.res.facts
          have nb : gb ≠ w.heap.size := by have := V.out.lo2; omega
          have nb' : w.heap.size ≠ gb := by omega
          go_wp2
          refine bodyPost_ret (v := .agg #[.int .i64 (1 + b), .slice AV L2.length cv]) (by simp [results, Try.results77, go_sem, r0, r1, fr0, fr1, nb, nb']) rfl ?_
          exact GS.fin (V.out) ⟨by omega, by omega⟩ (by omega) _ _
  | false =>
    go_wp2_with fail
    go_loopw [7] (fun i wr => ∃ (k : Nat) (q : Value) (L : List Arc3), (k : Int) ≤ b ∧ i = .int .i64 k ∧ L.length ≤ 2 * k ∧ GS w rd A n c w.heap.size gb (1 + b) q L wr) (fun i _ => (16 - intOf i).toNat)
    case atStart => exact ⟨0, _, _, by omega, rfl, by simp, GS1.out⟩
    case round =>
      obtain ⟨k, q, L, hk, rfl, hL, hS⟩ := hrel
      have S := Lib.hid hS
      clear hS
      by_cases hlt : (k : Int) + 1 < 1 + b
      · skip
        obtain ⟨c0, c1, f0, f1⟩ := S.out.box.facts
        go_wp2_with fail
        refine (below_any 5 rd A n c _ hn (by omega) S.out.rdr).mono ?_
        rintro e w3 ⟨x, hx, rfl, hr, hg⟩
        have x0 : 0 ≤ x := hx.1
        have x1 : x < 5 := by have := hx.2; omega
        have S3 := Lib.hid (S.out.rd_ hr hg)
        clear c0 c1 f0 f1 hr hg S hx
        have P := Lib.hid (putL_len (k, k + 1, 1 + x) L)
        obtain ⟨AA1, cc1, rfl, hAA, _⟩ := S3.out.own.shape
        have HA := Lib.hid hAA
        clear hAA
        obtain ⟨c0, c1, f0, f1⟩ := S3.out.box.facts
        go_wp2_with fail
        refine (l1Put_any _ _ _ AA1 _ cc1 _ rfl _ (by omega) HA.out).mono ?_
        rintro e w4 ⟨v4, rfl, ho, hb⟩
        obtain ⟨AB1, cb1, rfl, _, _⟩ := ho.shape
        have S4 := Lib.hid ((S3.out.bl_ hb).put (ho.low (World.rowIs.lt S3.out.box)))
        clear c0 c1 f0 f1
        obtain ⟨c0, c1, f0, f1⟩ := (S3.out.bl_ hb).box.facts
        clear ho hb S3 HA
        go_wp2_with fail
        refine (once_any 2 rd A n c _ hn (by omega) (by omega) S4.out.rdr).mono ?_
        rintro e w5 ⟨tst, rfl, hr, hg⟩
        have S5 := Lib.hid (S4.out.rd_ hr hg)
        clear hr hg c0 c1 f0 f1 S4
        have P := P.out
        cases tst with
        | true =>
          have P2 := putL_len (k + 1, k, 1 + x) (putL (k, k + 1, 1 + x) L)
          obtain ⟨AA2, cc2, hq, hAA, _⟩ := S5.out.own.shape
          injection hq with e1 _ e3
          subst e1
          subst e3
          have HA := Lib.hid hAA
          clear hAA
          obtain ⟨c0, c1, f0, f1⟩ := S5.out.box.facts
          go_wp2_with fail
          refine (l1Put_any _ _ _ _ _ _ _ rfl _ (by omega) HA.out).mono ?_
          rintro e w6 ⟨v4, rfl, ho, hb⟩
          obtain ⟨AB2, cb2, rfl, _, _⟩ := ho.shape
          have S6 := Lib.hid ((S5.out.bl_ hb).put (ho.low (World.rowIs.lt S5.out.box)))
          clear c0 c1 f0 f1
          obtain ⟨c0, c1, f0, f1⟩ := (S5.out.bl_ hb).box.facts
          clear ho hb S5 HA
          go_wp2_with fail
          go_roundw
          case rel => exact ⟨k + 1, _, _, by omega, by go_num, by omega, S6.out⟩
          case measure => simp [intOf]; omega
        | false =>
          go_wp2_with fail
          go_roundw
          case rel => exact ⟨k + 1, _, _, by omega, by go_num, by omega, S5.out⟩
          case measure => simp [intOf]; omega
      · have hL0 : L.length ≤ 32 := by omega
        clear hL
        obtain ⟨c0, c1, f0, f1⟩ := S.out.box.facts
        go_wp2_with fail
        refine (below_any 8 rd A n c _ hn (by omega) S.out.rdr).mono ?_
        rintro e w5 ⟨y, hy, rfl, hr, hg⟩
        have y0 : 0 ≤ y := hy.1
        have y1 : y < 8 := by have := hy.2; omega
        have T := Lib.hid (S.out.rd_ hr hg)
        clear hy hr hg c0 c1 f0 f1 S
        go_wp2_with fail
        go_loopw [9] (fun i wr => ∃ (m : Int) (q : Value) (L : List Arc3), 0 ≤ m ∧ m ≤ 7 ∧ i = .int .i64 m ∧ (L.length : Int) + m ≤ 40 ∧ GS w rd A n c w.heap.size gb (1 + b) q L wr) (fun i _ => (intOf i).toNat)
        case atStart => exact ⟨y, _, _, y0, by omega, rfl, by first | omega | (simp; omega), T.out⟩
        case round =>
          clear T hL0
          obtain ⟨m, q2, L2, mm0, m7, rfl, hL2, hS2⟩ := hrel
          have U := Lib.hid hS2
          clear hS2
          obtain ⟨c0, c1, f0, f1⟩ := U.out.box.facts
          by_cases e1 : 0 < m
          · by_cases e2 : 1 < 1 + b
            · go_wp2_with fail
              refine (below_any (1 + b) rd A n c _ hn (by omega) U.out.rdr).mono ?_
              rintro e w6 ⟨u, hu, rfl, hr, hg⟩
              have u0 : 0 ≤ u := hu.1
              have u1 : u < 16 := by have := hu.2; omega
              have U1 := Lib.hid (U.out.rd_ hr hg)
              clear hu hr hg c0 c1 f0 f1 U
              obtain ⟨c0, c1, f0, f1⟩ := U1.out.box.facts
              go_wp2_with fail
              refine (below_any (1 + b) rd A n c _ hn (by omega) U1.out.rdr).mono ?_
              rintro e w7 ⟨v, hv, rfl, hr, hg⟩
              have v0 : 0 ≤ v := hv.1
              have v1 : v < 16 := by have := hv.2; omega
              have U2 := Lib.hid (U1.out.rd_ hr hg)
              clear hv hr hg c0 c1 f0 f1 U1
              obtain ⟨AA, cc, rfl, hAA, _⟩ := U2.out.own.shape
              clear hAA
              obtain ⟨c0, c1, f0, f1⟩ := U2.out.box.facts
              by_cases e3 : (u != v) = true
              · go_wp2_with fail
                go_region_with (first
                  | (go_at_call 70; refine (below_any 12 rd A n c _ hn (by omega) ((U2.out.bl_ (by repeat' (first | exact Bl.refl _ | with_reducible assumption | with_reducible refine Bl.drew_ ?_ | with_reducible refine Bl.drewN_ ?_ _ | with_reducible refine Bl.alloc_ ?_ _ | with_reducible refine Bl.trans_ ?_ (by assumption) | with_reducible refine Bl.trans_ ?_ (And.left (by assumption))))).rdr)).mono ?_; rintro e w8 ⟨z, hz, rfl, hr, hg⟩; have z0 : 0 ≤ z := hz.1; have z1 : z < 12 := (by have := hz.2; omega); have U3 := Lib.hid ((U2.out.bl_ (by repeat' (first | exact Bl.refl _ | with_reducible assumption | with_reducible refine Bl.drew_ ?_ | with_reducible refine Bl.drewN_ ?_ _ | with_reducible refine Bl.alloc_ ?_ _ | with_reducible refine Bl.trans_ ?_ (by assumption) | with_reducible refine Bl.trans_ ?_ (And.left (by assumption))))).rd_ hr hg); clear hz hr hg; obtain ⟨d0, d1, k0, k1⟩ := U3.out.box.facts)
                  | (go_at_call 123; obtain ⟨_, _, hq, hAA, _⟩ := U3.out.own.shape; injection hq with q1 _ q3; subst q1; subst q3; refine (l1Put_any _ _ _ _ _ _ L2 rfl _ (by omega) hAA).mono ?_; rintro e w9 ⟨v4, rfl, ho, hb⟩; obtain ⟨AB, cb, rfl, _, _⟩ := ho.shape; have P := putL_len (u, v, 1 + z) L2; have U4 := Lib.hid ((U3.out.bl_ hb).put (ho.low (World.rowIs.lt U3.out.box))); clear d0 d1 k0 k1; obtain ⟨d0, d1, k0, k1⟩ := (U3.out.bl_ hb).box.facts; clear hAA ho hb))
                all_goals (go_wp2; go_roundw)
                all_goals (first | (case measure => (simp [intOf]; omega)) | skip)
                all_goals (refine ⟨m - 1, .slice AB (putL (u, v, 1 + z) L2).length cb, putL (u, v, 1 + z) L2, by omega, by omega, by go_num, by omega, by have hw : IntKind.i64.wrap (1 + z) = 1 + z := IntWalk.i64_in _ (by omega); have X := U4.out; rw [hw] at X; exact X⟩)
              · have e3' : (u != v) = false := by simpa using e3
                clear e3
                go_wp2_with fail
                go_roundw
                case rel => exact ⟨m - 1, _, L2, by omega, by omega, by go_num, by omega, U2.out⟩
                case measure => simp [intOf]; omega
            · skip
              obtain ⟨AV, cv, rfl, hAV, _⟩ := U.out.own.shape
              clear hAV
              go_wp2_with fail
              refine (once_any 60 rd A n c _ hn (by omega) (by omega) U.out.rdr).mono ?_
              rintro e w8 ⟨t3, rfl, hr, hg⟩
              have V := Lib.hid (U.out.rd_ hr hg)
              clear hr hg c0 c1 f0 f1 U
              cases t3 with
              | true =>
                go_wp2_with fail
                refine (off_any 1 24 rd A n c _ hn (by omega) (by omega) (by omega) (by omega) V.out.rdr).mono ?_
                rintro e w9 ⟨N9, hN9, rfl, hr, hg⟩
                have W := Lib.hid (V.out.rd_ hr hg)
                obtain ⟨c0, c1, f0, f1⟩ := W.out.box.facts
                obtain ⟨r0, r1, fr0, fr1⟩ := W.out.res.facts
                have nb : gb ≠ w.heap.size := by have := W.out.lo2; omega
                have nb' : w.heap.size ≠ gb := by omega
                go_wp2
                refine bodyPost_ret (v := .agg #[.int .i64 N9, .slice AV L2.length cv]) (by simp [results, Try.results77, go_sem, r0, r1, fr0, fr1, nb, nb']) rfl ?_
                exact GS.fin (W.out.num N9) hN9 (by omega) _ _
              | false =>
                obtain ⟨c0, c1, f0, f1⟩ := V.out.box.facts
                obtain ⟨r0, r1, fr0, fr1⟩ := V.out.res.facts
                have nb : gb ≠ w.heap.size := by have := V.out.lo2; omega
                have nb' : w.heap.size ≠ gb := by omega
                go_wp2
                refine bodyPost_ret (v := .agg #[.int .i64 (1 + b), .slice AV L2.length cv]) (by simp [results, Try.results77, go_sem, r0, r1, fr0, fr1, nb, nb']) rfl ?_
                exact GS.fin (V.out) ⟨by omega, by omega⟩ (by omega) _ _
          · skip
            obtain ⟨AV, cv, rfl, hAV, _⟩ := U.out.own.shape
            clear hAV
            go_wp2_with fail
            refine (once_any 60 rd A n c _ hn (by omega) (by omega) U.out.rdr).mono ?_
            rintro e w8 ⟨t3, rfl, hr, hg⟩
            have V := Lib.hid (U.out.rd_ hr hg)
            clear hr hg c0 c1 f0 f1 U
            cases t3 with
            | true =>
              go_wp2_with fail
              refine (off_any 1 24 rd A n c _ hn (by omega) (by omega) (by omega) (by omega) V.out.rdr).mono ?_
              rintro e w9 ⟨N9, hN9, rfl, hr, hg⟩
              have W := Lib.hid (V.out.rd_ hr hg)
              obtain ⟨c0, c1, f0, f1⟩ := W.out.box.facts
              obtain ⟨r0, r1, fr0, fr1⟩ := W.out.res.facts
              have nb : gb ≠ w.heap.size := by have := W.out.lo2; omega
              have nb' : w.heap.size ≠ gb := by omega
              go_wp2
              refine bodyPost_ret (v := .agg #[.int .i64 N9, .slice AV L2.length cv]) (by simp [results, Try.results77, go_sem, r0, r1, fr0, fr1, nb, nb']) rfl ?_
              exact GS.fin (W.out.num N9) hN9 (by omega) _ _
            | false =>
              obtain ⟨c0, c1, f0, f1⟩ := V.out.box.facts
              obtain ⟨r0, r1, fr0, fr1⟩ := V.out.res.facts
              have nb : gb ≠ w.heap.size := by have := V.out.lo2; omega
              have nb' : w.heap.size ≠ gb := by omega
              go_wp2
              refine bodyPost_ret (v := .agg #[.int .i64 (1 + b), .slice AV L2.length cv]) (by simp [results, Try.results77, go_sem, r0, r1, fr0, fr1, nb, nb']) rfl ?_
              exact GS.fin (V.out) ⟨by omega, by omega⟩ (by omega) _ _

end Go.Proofs.Ytlddileiecnkjaa

set_option linter.unusedSimpArgs false
set_option linter.unusedVariables false
namespace Go.Proofs.Ytlddileiecnkjaa
open Go.RowKit

theorem BytesAt.lt' {w : World} {A : Option Addr} {n : Nat} (h : BytesAt w A n) : 0 < n → ∀ g off, A = some ⟨g, off, none⟩ → g < w.heap.size := fun h0 g off e => by
  obtain ⟨g', off', e', hlt, -⟩ := h h0
  rw [e] at e'
  injection e' with e'
  injection e' with e1
  omega
theorem Drawn.far {B : Nat} {w w' : World} {N : Int} {A' : Option Addr} {l c' : Nat} {L : List Arc3} (h : Drawn B w N A' l c' L) {rd : Nat} (hg : w.grownBy w' (some rd)) (hr : rd < B) : Drawn B w' N A' l c' L :=
  ⟨h.1, h.2.1, h.2.2.1, h.2.2.2.grown_ hg (fun g e => by injection e with e; omega)⟩
theorem Drawn.low {B B' : Nat} {w : World} {N : Int} {A' : Option Addr} {l c' : Nat} {L : List Arc3} (h : Drawn B w N A' l c' L) (hB : B' ≤ B) : Drawn B' w N A' l c' L :=
  ⟨h.1, h.2.1, h.2.2.1, h.2.2.2.low hB⟩
theorem Drawn.bl {B : Nat} {w w' : World} {N : Int} {A' : Option Addr} {l c' : Nat} {L : List Arc3} (h : Drawn B w N A' l c' L) (hb : Bl w w') : Drawn B w' N A' l c' L :=
  ⟨h.1, h.2.1, h.2.2.1, OwnA.bl h.2.2.2 hb⟩
theorem Drawn.arcs {B : Nat} {w : World} {N : Int} {A' : Option Addr} {l c' : Nat} {L : List Arc3} (h : Drawn B w N A' l c' L) : ArcsAt w w.heap.size A' L ∧ l ≤ c' := by
  obtain ⟨h1, h2, h3, h4⟩ := h
  obtain ⟨AA, cc, e, ha, -⟩ := h4.shape
  injection e with e1 e2 e3
  refine ⟨by rw [e1]; exact ha, ?_⟩
  have h' : w.ownsRow B 146 3 (.slice A' l c') L.length (cs3 L) := h4
  rcases h'.2 with ⟨e, h0⟩ | ⟨g, cap, cur, e, hB, hg, hnc, -⟩
  · injection e with e1 e2 e3
    omega
  · injection e with e1 e2 e3
    omega




end Go.Proofs.Ytlddileiecnkjaa

set_option linter.unusedSimpArgs false
set_option linter.unusedVariables false
namespace Go.Proofs.Ytlddileiecnkjaa
open Go.RowKit


theorem RdAny.grow_ {w w' : World} {rd : Nat} {A : Option Addr} {n c : Nat} {row : Option Nat} (h : RdAny w rd A n c) (hg : w.grownBy w' row) (hne : some rd ≠ row) (hA : 0 < n → ∀ g off, A = some ⟨g, off, none⟩ → some g ≠ row) : RdAny w' rd A n c := by
  obtain ⟨p, hr, hp, hc⟩ := h
  refine ⟨p, World.rowIs.of_block hr (hg.block rd hr.lt hne), hp, fun h0 => ?_⟩
  obtain ⟨g, off, e, hne', hlt, hcell⟩ := hc h0
  refine ⟨g, off, e, hne', Nat.lt_of_lt_of_le hlt hg.size, fun j hj => ?_⟩
  obtain ⟨b, h1, h2⟩ := hcell j hj
  exact ⟨b, hg.cell h1 (hA h0 g off e), h2⟩
theorem grown_own {a b c : World} {row row2 : Option Nat} (h : a.grownBy b row) (k : b.grownBy c row2) (hr : ∀ g, row2 = some g → a.heap.size ≤ g) : a.grownBy c row :=
  ⟨k.os.trans h.os, k.tape.trans h.tape, k.output.trans h.output, Nat.le_trans h.size k.size, fun i hi hne => (k.block i (Nat.lt_of_lt_of_le hi h.size) (fun e => by have := hr i e.symm; omega)).trans (h.block i hi hne)⟩
theorem own_none (w : World) (B : Nat) (hB : B ≤ w.heap.size) : OwnN (w.alloc (.cells #[] 2)) B (.slice (some ⟨w.heap.size, 0, none⟩) 0 0) [] := by
  refine ⟨by simp [csI], .inr ⟨w.heap.size, 0, #[], by simp, hB, ?_, by simp, by unfold maxLen; omega, by simp, ?_⟩⟩
  · exact World.alloc_heap_new w _
  · simp [csI]

set_option maxRecDepth 100000 in
set_option maxHeartbeats 4000000 in
theorem some_any (most : Int) (N : Int) (v : Value) (rd : Nat) (A : Option Addr) (n c : Nat) (w : World) (hn : n ≤ 1099511627776) (m0 : 0 ≤ most) (m1 : most ≤ 16) (h0 : -9223372036854775808 ≤ N) (h1 : N ≤ 9223372036854775807) (HR : RdAny w rd A n c) (HA : 0 < n → ∀ g off, A = some ⟨g, off, none⟩ → g < w.heap.size) :
    Calls Try.prog 98 #[.pointer (some ⟨rd, 0, none⟩), .agg #[.int .i64 N, v], .int .i64 most] w
      (fun e w' => ∃ (q : Value) (V : List Int), e = .returned q ∧ OwnN w' w.heap.size q V ∧ V.length ≤ 64 ∧ RdAny w' rd A n c ∧ w.grownBy w' (some rd)) := by
  obtain ⟨i0, hi, hz0, hz1, hz2⟩ := info_parts infoInt
  have I0 := Lib.hid hi
  have I1 := Lib.hid hz0
  have I2 := Lib.hid hz1
  have I3 := Lib.hid hz2
  clear hi hz0 hz1 hz2
  have R := Lib.hid HR
  have AL := Lib.hid HA
  have hlt := HR.lt
  clear HR HA
  go_enter Try.func98, Try.ntmps98
  go_wp2_with fail
  refine (below_any (most + 1) rd A n c _ hn (by omega) (R.out.bl (by repeat' (first | exact Bl.refl _ | with_reducible assumption | with_reducible refine Bl.drew_ ?_ | with_reducible refine Bl.drewN_ ?_ _ | with_reducible refine Bl.alloc_ ?_ _ | with_reducible refine Bl.trans_ ?_ (by assumption) | with_reducible refine Bl.trans_ ?_ (And.left (by assumption)))))).mono ?_
  rintro e w1 ⟨b, hb, rfl, hr, hg⟩
  have b0 : 0 ≤ b := hb.1
  have b1 : b ≤ 16 := by omega
  have G1 := Lib.hid (show (w.alloc (.cells #[.int .i64 N, v] 33)).grownBy w1 (some rd) from grown_trans (bl_grown (Bl.alloc_ (Bl.refl _) _) _) hg)
  have O1 := Lib.hid (show OwnN w1 (w.heap.size + 1) (.slice (some ⟨w.heap.size + 1, 0, none⟩) 0 0) [] from by
    have h := own_none (w.alloc (.cells #[.int .i64 N, v] 33)) (w.heap.size + 1) (by simp)
    have h2 := Owns.grown_ h hg (fun g hg' e => by
      injection e with e
      have := (Owns.lt h g hg').1
      omega)
    unfold OwnN
    simpa using h2)
  have R1 := Lib.hid hr
  obtain ⟨X, hX⟩ : ∃ X, X = w.alloc (.cells #[.int .i64 N, v] 33) := ⟨_, rfl⟩
  have SX : X.heap.size = w.heap.size + 1 := by rw [hX, World.size_alloc]
  have BOX := Lib.hid (show ∀ wx, X.grownBy wx (some rd) → wx.cell? ⟨w.heap.size, 0, none⟩ = some (.int .i64 N) ∧ wx.cell? ⟨w.heap.size, 1, none⟩ = some v from fun wx h => by
    rw [hX] at h
    exact ⟨h.cell (by simp [go_sem]) (by simp; omega), h.cell (by simp [go_sem]) (by simp; omega)⟩)
  have BW := Lib.hid (show Bl w X from by rw [hX]; exact Bl.alloc_ (Bl.refl w) _)
  rw [← hX] at G1
  clear hX hr hg hb
  go_wp2_with fail
  go_loopw [7, 8, 9] (fun q i _ wr => ∃ (m : Int) (V : List Int), 0 ≤ m ∧ m ≤ 16 ∧ i = .int .i64 m ∧ (V.length : Int) + m ≤ 16 ∧ OwnN wr (w.heap.size + 1) q V ∧ RdAny wr rd A n c ∧ X.grownBy wr (some rd)) (fun _ i _ _ => (intOf i).toNat)
  case atStart => exact ⟨b, [], b0, b1, rfl, by simp; omega, O1.out, R1.out, G1.out⟩
  case round =>
    obtain ⟨m, V, mm0, mm1, rfl, hVm, hO, hR, hG⟩ := hrel
    have OO := Lib.hid hO
    have RR := Lib.hid hR
    have GG := Lib.hid hG
    obtain ⟨AV, cV, rfl, -, -, -, -⟩ := OwnN.shape hO
    clear hO hR hG O1 R1 G1
    by_cases hm : 0 < m
    · obtain ⟨y0, y1⟩ := BOX.out _ GG.out
      go_wp2_with fail
      refine (node_any N v rd A n c _ hn h0 h1 RR.out).mono ?_
      rintro e w4 ⟨x, hx, rfl, hr, hg⟩
      have O4 := Lib.hid (show OwnN w4 (w.heap.size + 1) (.slice AV V.length cV) V from Owns.grown_ OO.out hg (fun g hg' e => by
        injection e with e
        have := (Owns.lt OO.out g hg').1
        omega))
      have R4 := Lib.hid hr
      have G4 := Lib.hid (grown_trans GG.out hg)
      clear hx hr hg y0 y1
      obtain ⟨AA, cc, e4, -, hi4, -, -⟩ := OwnN.shape O4.out
      injection e4 with e41 e42 e43
      subst e41
      subst e43
      clear e42
      go_wp2_with fail
      refine (l1Has_any AV cV V V.length rfl x _ (by omega) hi4).mono ?_
      rintro e w5 ⟨rfl, hb5⟩
      have O5 := Lib.hid (O4.out.bl hb5)
      have R5 := Lib.hid (R4.out.bl hb5)
      have G5 := Lib.hid (grown_bl G4.out hb5)
      clear hb5 hi4
      cases hx : decide (x ∈ V) with
      | true =>
        go_wp2_with fail
        go_roundw
        case rel => exact ⟨m - 1, V, by omega, by omega, by go_num, by omega, O5.out, R5.out, G5.out⟩
        case measure => simp [intOf]; omega
      | false =>
        obtain ⟨lv, hlv⟩ : ∃ lv, lv = V.length := ⟨_, rfl⟩
        have HLV := Lib.hid hlv
        have OW := Lib.hid (show w5.ownsRow (w.heap.size + 1) 2 1 (.slice AV lv cV) lv (csI V) from by rw [hlv]; exact O5.out)
        rw [← hlv]
        have hlv16 : lv ≤ 16 := by omega
        have s5 := G5.out.size
        clear hlv
        go_wp2_with (at_builtin; refine wpList_append_any _ rfl (.tmp 26) (.tmp 28) _ rfl (w.heap.size + 1) 2 i0 _ 1 8 Try.underlying24 I0.out I1.out I2.out I3.out rfl (by decide) _ lv (csI V) rfl (World.ownsRow.alloc OW.out _) (w5.heap.size + 1) (some ⟨w5.heap.size, 0, none⟩) 1 1 [.int .i64 x] rfl ?c0 (by simp [Value.oneCell']) ?c3 ?c4 ?c5 ?_)
        case c0 =>
          refine ⟨rfl, fun _ => ⟨_, rfl, by show w5.heap.size < w5.heap.size + 1; omega, fun x u hj => ?_⟩⟩
          match x, hj with
          | 0, hj => simp at hj; subst hj; simp [Addr.add, go_sem]
          | (x + 1), hj => simp at hj
        case c3 => unfold maxLen; omega
        case c4 => omega
        case c5 => first | omega | (simp; omega)
        intro v' w8 hown' hgrow hwh
        have O8 := Lib.hid (OwnN.snoc (V := V) (x := x) (n := lv) HLV.out hown')
        have hol := fun g h => (Owns.lt OW.out g h).1
        have GX := Lib.hid (grown_bl G5.out (Bl.alloc_ (Bl.refl w5) (.cells #[.int .i64 x] 2)))
        have G8 := Lib.hid (grown_own GX.out hgrow (fun g hg => by have := hol g hg; omega))
        have R8 := Lib.hid ((R5.out.bl (Bl.alloc_ (Bl.refl w5) (.cells #[.int .i64 x] 2))).grow_ hgrow (fun e => by have := hol rd e.symm; omega) (fun h0 g off e e2 => by have := hol g e2.symm; have := AL.out h0 g off e; omega))
        clear hown' hgrow hwh
        go_wp2
        go_roundw
        case rel => exact ⟨m - 1, V ++ [x], by omega, by omega, by go_num, by have := HLV.out; simp; omega, O8.out, R8.out, G8.out⟩
        case measure => simp [intOf]; omega
    · have hm' : decide (0 < m) = false := by simpa using hm
      go_wp2
      go_ret
      exact ⟨_, rfl, V, OO.out.low (by omega), by omega, RR.out, grown_trans (bl_grown BW.out _) GG.out⟩




end Go.Proofs.Ytlddileiecnkjaa

set_option linter.unusedSimpArgs false
set_option linter.unusedVariables false
namespace Go.Proofs.Ytlddileiecnkjaa
open Go.RowKit




set_option maxHeartbeats 400000 in
theorem nodeLaw_any (N v : Int) (A : Option Addr) (n c : Nat) (L : List Arc3) (hn : n = L.length) (w : World) (hm : n ≤ 9223372036854775807) (H1 : ArcsAt w w.heap.size A L) :
    Calls Try.prog 46 #[.agg #[.int .i64 N, .slice A n c], .int .i64 v] w fun e w' => e = .returned (.bool (has1 N L v)) ∧ Bl w w' := by
  have K1 := Lib.hid H1
  have HN := Lib.hid hn
  clear H1 hn
  cases ho : okB N L with
  | false =>
    have HO := Lib.hid ho
    clear ho
    go_enter Try.func46, Try.ntmps46
    go_wp2_with fail
    refine (specOk_any N A n c L HN.out _ hm (K1.out.bl (by repeat' (first | exact Bl.refl _ | with_reducible assumption | with_reducible refine Bl.drew_ ?_ | with_reducible refine Bl.drewN_ ?_ _ | with_reducible refine Bl.alloc_ ?_ _ | with_reducible refine Bl.trans_ ?_ (by assumption) | with_reducible refine Bl.trans_ ?_ (And.left (by assumption)))))).mono ?_
    rintro e w1 ⟨rfl, hb1⟩
    rw [HO.out]
    go_wp2
    go_ret
    exact ⟨ret_bool (by unfold has1; rw [HO.out]; rfl), (Bl.alloc_ (Bl.refl w) _).trans_ hb1⟩
  | true =>
    have HO := Lib.hid ho
    clear ho
    by_cases h0 : 0 ≤ v
    · have b0 : decide (0 ≤ v) = true := by simpa using h0
      by_cases h1 : v < N
      · have b1 : decide (v < N) = true := by simpa using h1
        go_enter Try.func46, Try.ntmps46
        go_wp2_with fail
        refine (specOk_any N A n c L HN.out _ hm (K1.out.bl (by repeat' (first | exact Bl.refl _ | with_reducible assumption | with_reducible refine Bl.drew_ ?_ | with_reducible refine Bl.drewN_ ?_ _ | with_reducible refine Bl.alloc_ ?_ _ | with_reducible refine Bl.trans_ ?_ (by assumption) | with_reducible refine Bl.trans_ ?_ (And.left (by assumption)))))).mono ?_
        rintro e w1 ⟨rfl, hb1⟩
        rw [HO.out]
        obtain ⟨q0, q1⟩ := box2 hb1
        go_wp2
        go_ret
        exact ⟨ret_bool (by unfold has1; rw [HO.out, Bool.true_and]; symm; simp; omega), (Bl.alloc_ (Bl.refl w) _).trans_ hb1⟩
      · have b1 : decide (v < N) = false := by simpa using h1
        go_enter Try.func46, Try.ntmps46
        go_wp2_with fail
        refine (specOk_any N A n c L HN.out _ hm (K1.out.bl (by repeat' (first | exact Bl.refl _ | with_reducible assumption | with_reducible refine Bl.drew_ ?_ | with_reducible refine Bl.drewN_ ?_ _ | with_reducible refine Bl.alloc_ ?_ _ | with_reducible refine Bl.trans_ ?_ (by assumption) | with_reducible refine Bl.trans_ ?_ (And.left (by assumption)))))).mono ?_
        rintro e w1 ⟨rfl, hb1⟩
        rw [HO.out]
        obtain ⟨q0, q1⟩ := box2 hb1
        go_wp2
        go_ret
        exact ⟨ret_bool (by unfold has1; rw [HO.out, Bool.true_and]; symm; simp; omega), (Bl.alloc_ (Bl.refl w) _).trans_ hb1⟩
    · have b0 : decide (0 ≤ v) = false := by simpa using h0
      go_enter Try.func46, Try.ntmps46
      go_wp2_with fail
      refine (specOk_any N A n c L HN.out _ hm (K1.out.bl (by repeat' (first | exact Bl.refl _ | with_reducible assumption | with_reducible refine Bl.drew_ ?_ | with_reducible refine Bl.drewN_ ?_ _ | with_reducible refine Bl.alloc_ ?_ _ | with_reducible refine Bl.trans_ ?_ (by assumption) | with_reducible refine Bl.trans_ ?_ (And.left (by assumption)))))).mono ?_
      rintro e w1 ⟨rfl, hb1⟩
      rw [HO.out]
      obtain ⟨q0, q1⟩ := box2 hb1
      go_wp2
      go_ret
      exact ⟨ret_bool (by unfold has1; rw [HO.out, Bool.true_and]; symm; simp; omega), (Bl.alloc_ (Bl.refl w) _).trans_ hb1⟩

end Go.Proofs.Ytlddileiecnkjaa
