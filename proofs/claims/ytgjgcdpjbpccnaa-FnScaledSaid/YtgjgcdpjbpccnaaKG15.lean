/-
  What is proved here: the reader of a code draws a graph in new memory; graphs and nodes that are drawn by a code; graphs and two nodes that are drawn by a code for PathOf; the arcs that leave a node, as the code gathers them; the model's first of the shortest paths; What is stated here: of which functions and types of the program the library's search for the first one is made. No conditions. No conditions beyond those that each theorem states.
-/
import Derived.Test.YtgjgcdpjbpccnaaKG14
import Derived.Test.YtgjgcdpjbpccnaaKRB
import Derived.Test.YtgjgcdpjbpccnaaKG10
import Derived.Test.YtgjgcdpjbpccnaaKG13
import Derived.Test.YtgjgcdpjbpccnaaKG11
import Derived.Shelf.SlicesQ.IndexFunc
import Derived.Shelf.SlGeneric
import Derived.Test.YtgjgcdpjbpccnaaProg
set_option linter.unusedSimpArgs false
set_option linter.unusedVariables false
namespace Go.Proofs.Ytgjgcdpjbpccnaa
open Go.RowKit

/-- A drawn graph: some number of nodes, some arcs, in new memory. -/
def Drawn (B : Nat) (w' : World) (N : Int) (A' : Option Addr) (l c' : Nat) (L : List Arc3) : Prop :=
  l = L.length ∧ l ≤ 200 ∧ In64 N ∧ OwnA w' B (.slice A' l c') L
/-- What the drawing of a graph leaves. -/
def GraphDrawn (rd : Nat) (A : Option Addr) (n c : Nat) (w : World) (e : Ending) (w' : World) : Prop :=
  ∃ (N : Int) (A' : Option Addr) (l c' : Nat) (L : List Arc3), e = .returned (.agg #[.int .i64 N, .slice A' l c']) ∧ Drawn w.heap.size w' N A' l c' L ∧ RdAny w' rd A n c ∧ w.grownBy w' (some rd)

theorem RdAny.set_ {w : World} {rd : Nat} {A : Option Addr} {n c : Nat} (h : RdAny w rd A n c) {p : Addr} (hp : p.block ≠ rd) (hA : 0 < n → ∀ g off, A = some ⟨g, off, none⟩ → g ≠ p.block) (u : Value) : RdAny (w.setCell p u) rd A n c := by
  obtain ⟨q, hr, hq, hc⟩ := h
  refine ⟨q, World.rowIs.setOther hr (fun e => hp e.symm) u, hq, fun h0 => ?_⟩
  obtain ⟨g, off, e, hne, hlt, hcell⟩ := hc h0
  refine ⟨g, off, e, hne, by rw [World.size_setCell]; exact hlt, fun j hj => ?_⟩
  obtain ⟨b, h1, h2⟩ := hcell j hj
  exact ⟨b, by rw [World.cell?_setCell_other _ _ _ _ (fun e' => hA h0 g off e (by rw [e']))]; exact h1, h2⟩

/-- The state while a graph is drawn: the graph's box at gb, the result's box at g0. -/
structure GS (w : World) (rd : Nat) (A : Option Addr) (n c g0 gb : Nat) (N0 : Int) (q : Value) (L : List Arc3) (wr : World) : Prop where
  box : Two wr gb (.int .i64 N0) q
  res : Two wr g0 (.int .i64 0) (.slice none 0 0)
  own : OwnA wr (gb + 1) q L
  rdr : RdAny wr rd A n c
  grw : w.grownBy wr (some rd)
  lo1 : w.heap.size ≤ g0
  lo2 : g0 < gb
  rlt : rd < w.heap.size
  alt : 0 < n → ∀ g off, A = some ⟨g, off, none⟩ → g < w.heap.size
section
variable {w wr w2 : World} {rd : Nat} {A : Option Addr} {n c g0 gb : Nat} {N0 : Int} {q : Value} {L : List Arc3}
theorem GS.rd_ (h : GS w rd A n c g0 gb N0 q L wr) (hr : RdAny w2 rd A n c) (hg : wr.grownBy w2 (some rd)) : GS w rd A n c g0 gb N0 q L w2 := by
  have h1 := h.lo1; have h2 := h.lo2; have h3 := h.rlt
  exact ⟨h.box.grown_ hg (fun e => by injection e with e; omega), h.res.grown_ hg (fun e => by injection e with e; omega), h.own.grown_ hg (fun g e => by injection e with e; omega), hr, grown_trans h.grw hg, h1, h2, h3, h.alt⟩
theorem GS.bl_ (h : GS w rd A n c g0 gb N0 q L wr) (hb : Bl wr w2) : GS w rd A n c g0 gb N0 q L w2 :=
  ⟨h.box.bl hb, h.res.bl hb, h.own.bl hb, h.rdr.bl hb, grown_trans h.grw (bl_grown hb _), h.lo1, h.lo2, h.rlt, h.alt⟩
theorem GS.put (h : GS w rd A n c g0 gb N0 q L wr) {q2 : Value} {L2 : List Arc3} (ho : OwnA wr (gb + 1) q2 L2) : GS w rd A n c g0 gb N0 q2 L2 (wr.setCell ⟨gb, 1, none⟩ q2) := by
  have h1 := h.lo1; have h2 := h.lo2; have h3 := h.rlt
  exact ⟨h.box.set1 _, h.res.far (by show g0 ≠ gb; omega) _, ho.set_ (by show gb < gb + 1; omega) _, h.rdr.set_ (by show gb ≠ rd; omega) (fun h0 g off e => by have := h.alt h0 g off e; show g ≠ gb; omega) _,
    ⟨h.grw.os, h.grw.tape, h.grw.output, by rw [World.size_setCell]; exact h.grw.size, fun i hi hne => (Below.heap_setCell wr ⟨gb, 1, none⟩ q2 i (by show i ≠ gb; omega)).trans (h.grw.block i hi hne)⟩, h1, h2, h3, h.alt⟩
theorem GS.num (h : GS w rd A n c g0 gb N0 q L wr) (N1 : Int) : GS w rd A n c g0 gb N1 q L (wr.setCell ⟨gb, 0, none⟩ (.int .i64 N1)) := by
  have h1 := h.lo1; have h2 := h.lo2; have h3 := h.rlt
  exact ⟨h.box.set0 _, h.res.far (by show g0 ≠ gb; omega) _, h.own.set_ (by show gb < gb + 1; omega) _, h.rdr.set_ (by show gb ≠ rd; omega) (fun h0 g off e => by have := h.alt h0 g off e; show g ≠ gb; omega) _,
    ⟨h.grw.os, h.grw.tape, h.grw.output, by rw [World.size_setCell]; exact h.grw.size, fun i hi hne => (Below.heap_setCell wr ⟨gb, 0, none⟩ _ i (by show i ≠ gb; omega)).trans (h.grw.block i hi hne)⟩, h1, h2, h3, h.alt⟩
theorem GS.fin {A' : Option Addr} {l c' : Nat} (h : GS w rd A n c g0 gb N0 (.slice A' l c') L wr) (h0 : In64 N0) (hl : L.length ≤ 200) (x y : Value) :
    GraphDrawn rd A n c w (.returned (.agg #[.int .i64 N0, .slice A' l c'])) ((wr.setCell ⟨g0, 0, none⟩ x).setCell ⟨g0, 1, none⟩ y) := by
  have h1 := h.lo1; have h2 := h.lo2; have h3 := h.rlt
  obtain ⟨AA, cc, hq, _, _⟩ := h.own.shape
  injection hq with _ e2 _
  refine ⟨N0, A', l, c', L, rfl, ⟨e2, by omega, h0, ((h.own.set_ (by show g0 < gb + 1; omega) _).set_ (by show g0 < gb + 1; omega) _).low (by omega)⟩,
    (h.rdr.set_ (by show g0 ≠ rd; omega) (fun h0 g off e => by have := h.alt h0 g off e; show g ≠ g0; omega) _).set_ (by show g0 ≠ rd; omega) (fun h0 g off e => by have := h.alt h0 g off e; show g ≠ g0; omega) _,
    ⟨h.grw.os, h.grw.tape, h.grw.output, by rw [World.size_setCell, World.size_setCell]; exact h.grw.size, fun i hi hne => (Below.heap_setCell _ ⟨g0, 1, none⟩ y i (by show i ≠ g0; omega)).trans ((Below.heap_setCell wr ⟨g0, 0, none⟩ x i (by show i ≠ g0; omega)).trans (h.grw.block i hi hne))⟩⟩
end

set_option maxRecDepth 100000 in
set_option maxHeartbeats 8000000 in
theorem graph_any (most : Int) (rd : Nat) (A : Option Addr) (n c : Nat) (w : World) (hn : n ≤ 1099511627776) (m0 : 2 ≤ most) (m1 : most ≤ 16) (HR : RdAny w rd A n c) (HA : 0 < n → ∀ g off, A = some ⟨g, off, none⟩ → g < w.heap.size) :
    Calls Try.prog 91 #[.pointer (some ⟨rd, 0, none⟩), .int .i64 most] w (GraphDrawn rd A n c w) := by
  have R := Lib.hid HR
  have AL := Lib.hid HA
  have hlt := HR.lt
  clear HR HA
  go_enter Try.func91, Try.ntmps91
  go_wp2_with fail
  refine (below_any most rd A n c _ hn (by omega) (R.out.bl (Bl.alloc_ (Bl.refl w) _))).mono ?_
  rintro e w1 ⟨b, hb, rfl, hr, hg⟩
  have b0 : 0 ≤ b := hb.1
  have b1 : b < most := by omega
  have hs1 : w.heap.size + 1 ≤ w1.heap.size := by have := hg.size; simpa using this
  have GS0 := Lib.hid (show GS w rd A n c w.heap.size w1.heap.size (1 + b) (.slice none 0 0) [] (w1.alloc (.cells #[.int .i64 (1 + b), .slice none 0 0] 26)) from
    ⟨Two.new _ _ _, Two.bl ((Two.new w _ _).grown_ hg (fun e => by injection e with e; omega)) (Bl.alloc_ (Bl.refl _) _), OwnA.nil_ _ _, hr.bl (Bl.alloc_ (Bl.refl _) _),
      grown_trans (grown_trans (bl_grown (Bl.alloc_ (Bl.refl w) _) _) hg) (bl_grown (Bl.alloc_ (Bl.refl w1) _) _), Nat.le_refl _, by omega, hlt, AL.out⟩)
  obtain ⟨gb, hgb⟩ : ∃ gb, gb = w1.heap.size := ⟨_, rfl⟩
  clear hr hg hb
  go_wp2_with fail
  rw [← hgb] at GS0 ⊢
  refine (once_any 4 rd A n c _ hn (by omega) (by omega) GS0.out.rdr).mono ?_
  rintro e w2 ⟨tst, rfl, hr, hg⟩
  have GS1 := Lib.hid (GS0.out.rd_ hr hg)
  clear hr hg hgb hs1 GS0
  cases tst with
  | true =>
    have hL0 : ([] : List Arc3).length ≤ 32 := by simp
    obtain ⟨c0, c1, f0, f1⟩ := GS1.out.box.facts
    go_wp2_with fail
    refine (below_any 8 rd A n c _ hn (by omega) GS1.out.rdr).mono ?_
    rintro e w5 ⟨y, hy, rfl, hr, hg⟩
    have y0 : 0 ≤ y := hy.1
    have y1 : y < 8 := by have := hy.2; omega
    have T := Lib.hid (GS1.out.rd_ hr hg)
    clear hy hr hg c0 c1 f0 f1 GS1
    go_wp2_with fail
    go_loopw [9] (fun i wr => ∃ (m : Int) (q : Value) (L : List Arc3), 0 ≤ m ∧ m ≤ 7 ∧ i = .int .i64 m ∧ (L.length : Int) + m ≤ 40 ∧ GS w rd A n c w.heap.size gb (1 + b) q L wr) (fun i _ => (intOf i).toNat)
    case atStart => exact ⟨y, _, _, y0, by omega, rfl, by first | omega | (simp; omega), T.out⟩
    case round =>
      clear T hL0
      obtain ⟨m, q2, L2, mm0, m7, rfl, hL2, hS2⟩ := hrel
      have U := Lib.hid hS2
      clear hS2
      obtain ⟨c0, c1, f0, f1⟩ := U.out.box.facts
      by_cases e1 : 0 < m
      · by_cases e2 : 1 < 1 + b
        · go_wp2_with fail
          refine (below_any (1 + b) rd A n c _ hn (by omega) U.out.rdr).mono ?_
          rintro e w6 ⟨u, hu, rfl, hr, hg⟩
          have u0 : 0 ≤ u := hu.1
          have u1 : u < 16 := by have := hu.2; omega
          have U1 := Lib.hid (U.out.rd_ hr hg)
          clear hu hr hg c0 c1 f0 f1 U
          obtain ⟨c0, c1, f0, f1⟩ := U1.out.box.facts
          go_wp2_with fail
          refine (below_any (1 + b) rd A n c _ hn (by omega) U1.out.rdr).mono ?_
          rintro e w7 ⟨v, hv, rfl, hr, hg⟩
          have v0 : 0 ≤ v := hv.1
          have v1 : v < 16 := by have := hv.2; omega
          have U2 := Lib.hid (U1.out.rd_ hr hg)
          clear hv hr hg c0 c1 f0 f1 U1
          obtain ⟨AA, cc, rfl, hAA, _⟩ := U2.out.own.shape
          clear hAA
          obtain ⟨c0, c1, f0, f1⟩ := U2.out.box.facts
          by_cases e3 : (u != v) = true
          · go_wp2_with fail
            go_region_with (first
              | (go_at_call 84; refine (below_any 12 rd A n c _ hn (by omega) ((U2.out.bl_ (by repeat' (first | exact Bl.refl _ | with_reducible assumption | with_reducible refine Bl.drew_ ?_ | with_reducible refine Bl.drewN_ ?_ _ | with_reducible refine Bl.alloc_ ?_ _ | with_reducible refine Bl.trans_ ?_ (by assumption) | with_reducible refine Bl.trans_ ?_ (And.left (by assumption))))).rdr)).mono ?_; rintro e w8 ⟨z, hz, rfl, hr, hg⟩; have z0 : 0 ≤ z := hz.1; have z1 : z < 12 := (by have := hz.2; omega); have U3 := Lib.hid ((U2.out.bl_ (by repeat' (first | exact Bl.refl _ | with_reducible assumption | with_reducible refine Bl.drew_ ?_ | with_reducible refine Bl.drewN_ ?_ _ | with_reducible refine Bl.alloc_ ?_ _ | with_reducible refine Bl.trans_ ?_ (by assumption) | with_reducible refine Bl.trans_ ?_ (And.left (by assumption))))).rd_ hr hg); clear hz hr hg; obtain ⟨d0, d1, k0, k1⟩ := U3.out.box.facts)
              | (go_at_call 136; obtain ⟨_, _, hq, hAA, _⟩ := U3.out.own.shape; injection hq with q1 _ q3; subst q1; subst q3; refine (l1Put_any _ _ _ _ _ _ L2 rfl _ (by omega) hAA).mono ?_; rintro e w9 ⟨v4, rfl, ho, hb⟩; obtain ⟨AB, cb, rfl, _, _⟩ := ho.shape; have P := putL_len (u, v, 1 + z) L2; have U4 := Lib.hid ((U3.out.bl_ hb).put (ho.low (World.rowIs.lt U3.out.box))); clear d0 d1 k0 k1; obtain ⟨d0, d1, k0, k1⟩ := (U3.out.bl_ hb).box.facts; clear hAA ho hb))
            all_goals (go_wp2; go_roundw)
            all_goals (first | (case measure => (simp [intOf]; omega)) | skip)
            all_goals (refine ⟨m - 1, .slice AB (putL (u, v, 1 + z) L2).length cb, putL (u, v, 1 + z) L2, by omega, by omega, by go_num, by omega, by have hw : IntKind.i64.wrap (1 + z) = 1 + z := IntWalk.i64_in _ (by omega); have X := U4.out; rw [hw] at X; exact X⟩)
          · have e3' : (u != v) = false := by simpa using e3
            clear e3
            go_wp2_with fail
            go_roundw
            case rel => exact ⟨m - 1, _, L2, by omega, by omega, by go_num, by omega, U2.out⟩
            case measure => simp [intOf]; omega
        · skip
          obtain ⟨AV, cv, rfl, hAV, _⟩ := U.out.own.shape
          clear hAV
          go_wp2_with fail
          refine (once_any 60 rd A n c _ hn (by omega) (by omega) U.out.rdr).mono ?_
          rintro e w8 ⟨t3, rfl, hr, hg⟩
          have V := Lib.hid (U.out.rd_ hr hg)
          clear hr hg c0 c1 f0 f1 U
          cases t3 with
          | true =>
            go_wp2_with fail
            refine (off_any 1 24 rd A n c _ hn (by omega) (by omega) (by omega) (by omega) V.out.rdr).mono ?_
            rintro e w9 ⟨N9, hN9, rfl, hr, hg⟩
            have W := Lib.hid (V.out.rd_ hr hg)
            obtain ⟨c0, c1, f0, f1⟩ := W.out.box.facts
            obtain ⟨r0, r1, fr0, fr1⟩ := W.out.res.facts
            have nb : gb ≠ w.heap.size := by have := W.out.lo2; omega
            have nb' : w.heap.size ≠ gb := by omega
            go_wp2
            refine bodyPost_ret (v := .agg #[.int .i64 N9, .slice AV L2.length cv]) (by simp [results, Try.results91, go_sem, r0, r1, fr0, fr1, nb, nb']) rfl ?_
            exact GS.fin (W.out.num N9) hN9 (by omega) _ _
          | false =>
            obtain ⟨c0, c1, f0, f1⟩ := V.out.box.facts
            obtain ⟨r0, r1, fr0, fr1⟩ := V.out.res.facts
            have nb : gb ≠ w.heap.size := by have := V.out.lo2; omega
            have nb' : w.heap.size ≠ gb := by omega
            go_wp2
            refine bodyPost_ret (v := .agg #[.int .i64 (1 + b), .slice AV L2.length cv]) (by simp [results, Try.results91, go_sem, r0, r1, fr0, fr1, nb, nb']) rfl ?_
            exact GS.fin (V.out) ⟨by omega, by omega⟩ (by omega) _ _
      · skip
        obtain ⟨AV, cv, rfl, hAV, _⟩ := U.out.own.shape
        clear hAV
        go_wp2_with fail
        refine (once_any 60 rd A n c _ hn (by omega) (by omega) U.out.rdr).mono ?_
        rintro e w8 ⟨t3, rfl, hr, hg⟩
        have V := Lib.hid (U.out.rd_ hr hg)
        clear hr hg c0 c1 f0 f1 U
        cases t3 with
        | true =>
          go_wp2_with fail
          refine (off_any 1 24 rd A n c _ hn (by omega) (by omega) (by omega) (by omega) V.out.rdr).mono ?_
          rintro e w9 ⟨N9, hN9, rfl, hr, hg⟩
          have W := Lib.hid (V.out.rd_ hr hg)
          obtain ⟨c0, c1, f0, f1⟩ := W.out.box.facts
          obtain ⟨r0, r1, fr0, fr1⟩ := W.out.res.facts
          have nb : gb ≠ w.heap.size := by have := W.out.lo2; omega
          have nb' : w.heap.size ≠ gb := by omega
          go_wp2
          refine bodyPost_ret (v := .agg #[.int .i64 N9, .slice AV L2.length cv]) (by simp [results, Try.results91, go_sem, r0, r1, fr0, fr1, nb, nb']) rfl ?_
          exact GS.fin (W.out.num N9) hN9 (by omega) _ _
        | false =>
          obtain ⟨c0, c1, f0, f1⟩ := V.out.box.facts
          obtain ⟨r0, r1, fr0, fr1⟩ := V.out.res.facts
          have nb : gb ≠ w.heap.size := by have := V.out.lo2; omega
          have nb' : w.heap.size ≠ gb := by omega
          go_wp2
          refine bodyPost_ret (v := .agg #[.int .i64 (1 + b), .slice AV L2.length cv]) (by simp [results, Try.results91, go_sem, r0, r1, fr0, fr1, nb, nb']) rfl ?_
          exact GS.fin (V.out) ⟨by omega, by omega⟩ (by omega) _ _
  | false =>
    go_wp2_with fail
    go_loopw [7] (fun i wr => ∃ (k : Nat) (q : Value) (L : List Arc3), (k : Int) ≤ b ∧ i = .int .i64 k ∧ L.length ≤ 2 * k ∧ GS w rd A n c w.heap.size gb (1 + b) q L wr) (fun i _ => (16 - intOf i).toNat)
    case atStart => exact ⟨0, _, _, by omega, rfl, by simp, GS1.out⟩
    case round =>
      obtain ⟨k, q, L, hk, rfl, hL, hS⟩ := hrel
      have S := Lib.hid hS
      clear hS
      by_cases hlt : (k : Int) + 1 < 1 + b
      · skip
        obtain ⟨c0, c1, f0, f1⟩ := S.out.box.facts
        go_wp2_with fail
        refine (below_any 5 rd A n c _ hn (by omega) S.out.rdr).mono ?_
        rintro e w3 ⟨x, hx, rfl, hr, hg⟩
        have x0 : 0 ≤ x := hx.1
        have x1 : x < 5 := by have := hx.2; omega
        have S3 := Lib.hid (S.out.rd_ hr hg)
        clear c0 c1 f0 f1 hr hg S hx
        have P := Lib.hid (putL_len (k, k + 1, 1 + x) L)
        obtain ⟨AA1, cc1, rfl, hAA, _⟩ := S3.out.own.shape
        have HA := Lib.hid hAA
        clear hAA
        obtain ⟨c0, c1, f0, f1⟩ := S3.out.box.facts
        go_wp2_with fail
        refine (l1Put_any _ _ _ AA1 _ cc1 _ rfl _ (by omega) HA.out).mono ?_
        rintro e w4 ⟨v4, rfl, ho, hb⟩
        obtain ⟨AB1, cb1, rfl, _, _⟩ := ho.shape
        have S4 := Lib.hid ((S3.out.bl_ hb).put (ho.low (World.rowIs.lt S3.out.box)))
        clear c0 c1 f0 f1
        obtain ⟨c0, c1, f0, f1⟩ := (S3.out.bl_ hb).box.facts
        clear ho hb S3 HA
        go_wp2_with fail
        refine (once_any 2 rd A n c _ hn (by omega) (by omega) S4.out.rdr).mono ?_
        rintro e w5 ⟨tst, rfl, hr, hg⟩
        have S5 := Lib.hid (S4.out.rd_ hr hg)
        clear hr hg c0 c1 f0 f1 S4
        have P := P.out
        cases tst with
        | true =>
          have P2 := putL_len (k + 1, k, 1 + x) (putL (k, k + 1, 1 + x) L)
          obtain ⟨AA2, cc2, hq, hAA, _⟩ := S5.out.own.shape
          injection hq with e1 _ e3
          subst e1
          subst e3
          have HA := Lib.hid hAA
          clear hAA
          obtain ⟨c0, c1, f0, f1⟩ := S5.out.box.facts
          go_wp2_with fail
          refine (l1Put_any _ _ _ _ _ _ _ rfl _ (by omega) HA.out).mono ?_
          rintro e w6 ⟨v4, rfl, ho, hb⟩
          obtain ⟨AB2, cb2, rfl, _, _⟩ := ho.shape
          have S6 := Lib.hid ((S5.out.bl_ hb).put (ho.low (World.rowIs.lt S5.out.box)))
          clear c0 c1 f0 f1
          obtain ⟨c0, c1, f0, f1⟩ := (S5.out.bl_ hb).box.facts
          clear ho hb S5 HA
          go_wp2_with fail
          go_roundw
          case rel => exact ⟨k + 1, _, _, by omega, by go_num, by omega, S6.out⟩
          case measure => simp [intOf]; omega
        | false =>
          go_wp2_with fail
          go_roundw
          case rel => exact ⟨k + 1, _, _, by omega, by go_num, by omega, S5.out⟩
          case measure => simp [intOf]; omega
      · have hL0 : L.length ≤ 32 := by omega
        clear hL
        obtain ⟨c0, c1, f0, f1⟩ := S.out.box.facts
        go_wp2_with fail
        refine (below_any 8 rd A n c _ hn (by omega) S.out.rdr).mono ?_
        rintro e w5 ⟨y, hy, rfl, hr, hg⟩
        have y0 : 0 ≤ y := hy.1
        have y1 : y < 8 := by have := hy.2; omega
        have T := Lib.hid (S.out.rd_ hr hg)
        clear hy hr hg c0 c1 f0 f1 S
        go_wp2_with fail
        go_loopw [9] (fun i wr => ∃ (m : Int) (q : Value) (L : List Arc3), 0 ≤ m ∧ m ≤ 7 ∧ i = .int .i64 m ∧ (L.length : Int) + m ≤ 40 ∧ GS w rd A n c w.heap.size gb (1 + b) q L wr) (fun i _ => (intOf i).toNat)
        case atStart => exact ⟨y, _, _, y0, by omega, rfl, by first | omega | (simp; omega), T.out⟩
        case round =>
          clear T hL0
          obtain ⟨m, q2, L2, mm0, m7, rfl, hL2, hS2⟩ := hrel
          have U := Lib.hid hS2
          clear hS2
          obtain ⟨c0, c1, f0, f1⟩ := U.out.box.facts
          by_cases e1 : 0 < m
          · by_cases e2 : 1 < 1 + b
            · go_wp2_with fail
              refine (below_any (1 + b) rd A n c _ hn (by omega) U.out.rdr).mono ?_
              rintro e w6 ⟨u, hu, rfl, hr, hg⟩
              have u0 : 0 ≤ u := hu.1
              have u1 : u < 16 := by have := hu.2; omega
              have U1 := Lib.hid (U.out.rd_ hr hg)
              clear hu hr hg c0 c1 f0 f1 U
              obtain ⟨c0, c1, f0, f1⟩ := U1.out.box.facts
              go_wp2_with fail
              refine (below_any (1 + b) rd A n c _ hn (by omega) U1.out.rdr).mono ?_
              rintro e w7 ⟨v, hv, rfl, hr, hg⟩
              have v0 : 0 ≤ v := hv.1
              have v1 : v < 16 := by have := hv.2; omega
              have U2 := Lib.hid (U1.out.rd_ hr hg)
              clear hv hr hg c0 c1 f0 f1 U1
              obtain ⟨AA, cc, rfl, hAA, _⟩ := U2.out.own.shape
              clear hAA
              obtain ⟨c0, c1, f0, f1⟩ := U2.out.box.facts
              by_cases e3 : (u != v) = true
              · go_wp2_with fail
                go_region_with (first
                  | (go_at_call 84; refine (below_any 12 rd A n c _ hn (by omega) ((U2.out.bl_ (by repeat' (first | exact Bl.refl _ | with_reducible assumption | with_reducible refine Bl.drew_ ?_ | with_reducible refine Bl.drewN_ ?_ _ | with_reducible refine Bl.alloc_ ?_ _ | with_reducible refine Bl.trans_ ?_ (by assumption) | with_reducible refine Bl.trans_ ?_ (And.left (by assumption))))).rdr)).mono ?_; rintro e w8 ⟨z, hz, rfl, hr, hg⟩; have z0 : 0 ≤ z := hz.1; have z1 : z < 12 := (by have := hz.2; omega); have U3 := Lib.hid ((U2.out.bl_ (by repeat' (first | exact Bl.refl _ | with_reducible assumption | with_reducible refine Bl.drew_ ?_ | with_reducible refine Bl.drewN_ ?_ _ | with_reducible refine Bl.alloc_ ?_ _ | with_reducible refine Bl.trans_ ?_ (by assumption) | with_reducible refine Bl.trans_ ?_ (And.left (by assumption))))).rd_ hr hg); clear hz hr hg; obtain ⟨d0, d1, k0, k1⟩ := U3.out.box.facts)
                  | (go_at_call 136; obtain ⟨_, _, hq, hAA, _⟩ := U3.out.own.shape; injection hq with q1 _ q3; subst q1; subst q3; refine (l1Put_any _ _ _ _ _ _ L2 rfl _ (by omega) hAA).mono ?_; rintro e w9 ⟨v4, rfl, ho, hb⟩; obtain ⟨AB, cb, rfl, _, _⟩ := ho.shape; have P := putL_len (u, v, 1 + z) L2; have U4 := Lib.hid ((U3.out.bl_ hb).put (ho.low (World.rowIs.lt U3.out.box))); clear d0 d1 k0 k1; obtain ⟨d0, d1, k0, k1⟩ := (U3.out.bl_ hb).box.facts; clear hAA ho hb))
                all_goals (go_wp2; go_roundw)
                all_goals (first | (case measure => (simp [intOf]; omega)) | skip)
                all_goals (refine ⟨m - 1, .slice AB (putL (u, v, 1 + z) L2).length cb, putL (u, v, 1 + z) L2, by omega, by omega, by go_num, by omega, by have hw : IntKind.i64.wrap (1 + z) = 1 + z := IntWalk.i64_in _ (by omega); have X := U4.out; rw [hw] at X; exact X⟩)
              · have e3' : (u != v) = false := by simpa using e3
                clear e3
                go_wp2_with fail
                go_roundw
                case rel => exact ⟨m - 1, _, L2, by omega, by omega, by go_num, by omega, U2.out⟩
                case measure => simp [intOf]; omega
            · skip
              obtain ⟨AV, cv, rfl, hAV, _⟩ := U.out.own.shape
              clear hAV
              go_wp2_with fail
              refine (once_any 60 rd A n c _ hn (by omega) (by omega) U.out.rdr).mono ?_
              rintro e w8 ⟨t3, rfl, hr, hg⟩
              have V := Lib.hid (U.out.rd_ hr hg)
              clear hr hg c0 c1 f0 f1 U
              cases t3 with
              | true =>
                go_wp2_with fail
                refine (off_any 1 24 rd A n c _ hn (by omega) (by omega) (by omega) (by omega) V.out.rdr).mono ?_
                rintro e w9 ⟨N9, hN9, rfl, hr, hg⟩
                have W := Lib.hid (V.out.rd_ hr hg)
                obtain ⟨c0, c1, f0, f1⟩ := W.out.box.facts
                obtain ⟨r0, r1, fr0, fr1⟩ := W.out.res.facts
                have nb : gb ≠ w.heap.size := by have := W.out.lo2; omega
                have nb' : w.heap.size ≠ gb := by omega
                go_wp2
                refine bodyPost_ret (v := .agg #[.int .i64 N9, .slice AV L2.length cv]) (by simp [results, Try.results91, go_sem, r0, r1, fr0, fr1, nb, nb']) rfl ?_
                exact GS.fin (W.out.num N9) hN9 (by omega) _ _
              | false =>
                obtain ⟨c0, c1, f0, f1⟩ := V.out.box.facts
                obtain ⟨r0, r1, fr0, fr1⟩ := V.out.res.facts
                have nb : gb ≠ w.heap.size := by have := V.out.lo2; omega
                have nb' : w.heap.size ≠ gb := by omega
                go_wp2
                refine bodyPost_ret (v := .agg #[.int .i64 (1 + b), .slice AV L2.length cv]) (by simp [results, Try.results91, go_sem, r0, r1, fr0, fr1, nb, nb']) rfl ?_
                exact GS.fin (V.out) ⟨by omega, by omega⟩ (by omega) _ _
          · skip
            obtain ⟨AV, cv, rfl, hAV, _⟩ := U.out.own.shape
            clear hAV
            go_wp2_with fail
            refine (once_any 60 rd A n c _ hn (by omega) (by omega) U.out.rdr).mono ?_
            rintro e w8 ⟨t3, rfl, hr, hg⟩
            have V := Lib.hid (U.out.rd_ hr hg)
            clear hr hg c0 c1 f0 f1 U
            cases t3 with
            | true =>
              go_wp2_with fail
              refine (off_any 1 24 rd A n c _ hn (by omega) (by omega) (by omega) (by omega) V.out.rdr).mono ?_
              rintro e w9 ⟨N9, hN9, rfl, hr, hg⟩
              have W := Lib.hid (V.out.rd_ hr hg)
              obtain ⟨c0, c1, f0, f1⟩ := W.out.box.facts
              obtain ⟨r0, r1, fr0, fr1⟩ := W.out.res.facts
              have nb : gb ≠ w.heap.size := by have := W.out.lo2; omega
              have nb' : w.heap.size ≠ gb := by omega
              go_wp2
              refine bodyPost_ret (v := .agg #[.int .i64 N9, .slice AV L2.length cv]) (by simp [results, Try.results91, go_sem, r0, r1, fr0, fr1, nb, nb']) rfl ?_
              exact GS.fin (W.out.num N9) hN9 (by omega) _ _
            | false =>
              obtain ⟨c0, c1, f0, f1⟩ := V.out.box.facts
              obtain ⟨r0, r1, fr0, fr1⟩ := V.out.res.facts
              have nb : gb ≠ w.heap.size := by have := V.out.lo2; omega
              have nb' : w.heap.size ≠ gb := by omega
              go_wp2
              refine bodyPost_ret (v := .agg #[.int .i64 (1 + b), .slice AV L2.length cv]) (by simp [results, Try.results91, go_sem, r0, r1, fr0, fr1, nb, nb']) rfl ?_
              exact GS.fin (V.out) ⟨by omega, by omega⟩ (by omega) _ _

end Go.Proofs.Ytgjgcdpjbpccnaa

set_option linter.unusedSimpArgs false
set_option linter.unusedVariables false
namespace Go.Proofs.Ytgjgcdpjbpccnaa
open Go.RowKit

theorem BytesAt.lt' {w : World} {A : Option Addr} {n : Nat} (h : BytesAt w A n) : 0 < n → ∀ g off, A = some ⟨g, off, none⟩ → g < w.heap.size := fun h0 g off e => by
  obtain ⟨g', off', e', hlt, -⟩ := h h0
  rw [e] at e'
  injection e' with e'
  injection e' with e1
  omega
def DrawnG2 (w : World) (e : Ending) (w' : World) : Prop :=
  ∃ (N : Int) (A' : Option Addr) (l c' : Nat) (L : List Arc3) (s t : Int), e = .returned (.tuple #[.agg #[.int .i64 N, .slice A' l c'], .int .i64 s, .int .i64 t]) ∧ Drawn w.heap.size w' N A' l c' L ∧ In64 s ∧ In64 t ∧ Bl w w'
theorem Drawn.far {B : Nat} {w w' : World} {N : Int} {A' : Option Addr} {l c' : Nat} {L : List Arc3} (h : Drawn B w N A' l c' L) {rd : Nat} (hg : w.grownBy w' (some rd)) (hr : rd < B) : Drawn B w' N A' l c' L :=
  ⟨h.1, h.2.1, h.2.2.1, h.2.2.2.grown_ hg (fun g e => by injection e with e; omega)⟩
theorem Drawn.low {B B' : Nat} {w : World} {N : Int} {A' : Option Addr} {l c' : Nat} {L : List Arc3} (h : Drawn B w N A' l c' L) (hB : B' ≤ B) : Drawn B' w N A' l c' L :=
  ⟨h.1, h.2.1, h.2.2.1, h.2.2.2.low hB⟩
theorem Drawn.bl {B : Nat} {w w' : World} {N : Int} {A' : Option Addr} {l c' : Nat} {L : List Arc3} (h : Drawn B w N A' l c' L) (hb : Bl w w') : Drawn B w' N A' l c' L :=
  ⟨h.1, h.2.1, h.2.2.1, OwnA.bl h.2.2.2 hb⟩
theorem Drawn.arcs {B : Nat} {w : World} {N : Int} {A' : Option Addr} {l c' : Nat} {L : List Arc3} (h : Drawn B w N A' l c' L) : ArcsAt w w.heap.size A' L ∧ l ≤ c' := by
  obtain ⟨h1, h2, h3, h4⟩ := h
  obtain ⟨AA, cc, e, ha, -⟩ := h4.shape
  injection e with e1 e2 e3
  refine ⟨by rw [e1]; exact ha, ?_⟩
  have h' : w.ownsRow B 33 3 (.slice A' l c') L.length (cs3 L) := h4
  rcases h'.2 with ⟨e, h0⟩ | ⟨g, cap, cur, e, hB, hg, hnc, -⟩
  · injection e with e1 e2 e3
    omega
  · injection e with e1 e2 e3
    omega



set_option maxRecDepth 100000 in
set_option maxHeartbeats 1000000 in
theorem drawDistOf_any (A : Option Addr) (n c : Nat) (w : World) (hn : n ≤ 1099511627776) (H : BytesAt w A n) :
    Calls Try.prog 73 #[.slice A n c] w (DrawnG2 w) := by
  have K := Lib.hid H
  clear H
  go_enter Try.func73, Try.ntmps73
  go_wp2_with fail
  refine (open_any A n c _ (K.out.bl (by repeat' (first | exact Bl.refl _ | with_reducible assumption | with_reducible refine Bl.drew_ ?_ | with_reducible refine Bl.drewN_ ?_ _ | with_reducible refine Bl.alloc_ ?_ _ | with_reducible refine Bl.trans_ ?_ (by assumption) | with_reducible refine Bl.trans_ ?_ (And.left (by assumption)))))).mono ?_
  rintro e w1 ⟨rfl, hr, hb, hlt⟩
  have R1 := Lib.hid (show RdAny w1 (w.heap.size + 1) A n c from by rw [World.size_alloc] at hr; exact hr)
  have B1 := Lib.hid hb
  have s1 := hb.size
  simp only [World.size_alloc] at s1 hlt
  clear hr hb
  go_wp2_with fail
  refine (graph_any 10 (w.heap.size + 1) A n c _ hn (by omega) (by omega) R1.out (fun h0 g off e => by have := K.out.lt' h0 g off e; omega)).mono ?_
  rintro e w2 ⟨N, A', l, c', L, rfl, hd, hr, hg⟩
  have D2 := Lib.hid hd
  have R2 := Lib.hid hr
  have G2 := Lib.hid hg
  have hN := hd.2.2.1
  have s2 := hg.size
  clear hd hr hg
  have B2 := Lib.hid (show Bl (w.alloc (.cells #[.int .i64 0, .slice none 0 0] 26)) w2 from B1.out.grown_ G2.out (fun g e => by injection e with e; simp; omega))
  have R3 := Lib.hid (R2.out.bl (Bl.alloc_ (Bl.refl w2) (.cells #[.int .i64 N, .slice A' l c'] 26)))
  have HSH := Lib.hid (show ∀ wx, (w2.alloc (.cells #[.int .i64 N, .slice A' l c'] 26)).grownBy wx (some (w.heap.size + 1)) → (w2.alloc (.cells #[.int .i64 N, .slice A' l c'] 26)).grownBy wx (some (w.heap.size + 1)) ∧ wx.cell? ⟨w2.heap.size, 0, none⟩ = some (.int .i64 N) ∧ wx.cell? ⟨w2.heap.size, 1, none⟩ = some (.slice A' l c') from fun wx h =>
    ⟨h, h.cell (by simp [go_sem]) (by simp; omega), h.cell (by simp [go_sem]) (by simp; omega)⟩)
  have hN0 := hN.1
  have hN1 := hN.2
  have RES := Lib.hid (show Two (w2.alloc (.cells #[.int .i64 N, .slice A' l c'] 26)) w.heap.size (.int .i64 0) (.slice none 0 0) from ((Two.new w _ _).bl B2.out).bl (Bl.alloc_ (Bl.refl _) _))
  have nb : w2.heap.size ≠ w.heap.size := by omega
  have nb' : w.heap.size ≠ w2.heap.size := by omega
  go_wp2_with fail
  refine (node_any N _ (w.heap.size + 1) A n c _ hn hN0 hN1 R3.out).mono ?_
  rintro e w4 ⟨s, hs, rfl, hr4, hg4⟩
  have G4 := Lib.hid hg4
  have S4 := Lib.hid hs
  have R4 := Lib.hid hr4
  obtain ⟨y, y0, y1⟩ := HSH.out _ hg4
  have s4 := hg4.size
  simp only [World.size_alloc] at s4
  have RES4 := Lib.hid (RES.out.grown_ hg4 (by simp))
  clear hs hr4 hg4 y
  go_wp2_with fail
  refine wp_region_held_drew (S := fun wx => wx.cell? ⟨w2.heap.size, 0, none⟩ = some (.int .i64 N) ∧ wx.cell? ⟨w2.heap.size, 1, none⟩ = some (.slice A' l c')) (by kernel_rfl) ?_ (fun hHeld => ?_)
  · (first | exact (HSH.out _ hGG).2 | (refine ⟨?_, ?_⟩ <;> (simp [go_sem, nb, nb', *]; done)))
  refine wpAnyH_take (i := 0) (v := ?_) rfl (by kernel_rfl) (by kernel_rfl) (by kernel_rfl) (fun _ _ _ h => h) (Or.inl ⟨by kernel_rfl, ?_⟩) (by assumption) ?_
  rotate_left
  · (intro wx hSw; (try dsimp only at hSw); go_simp; try (with_reducible rfl))
  try simp only [Act.put, List.getElem_toArray, List.getElem_cons_succ, List.getElem_cons_zero, List.setIfInBounds_toArray, List.set_cons_zero, List.set_cons_succ]
  refine wpAnyH_take (i := 1) (v := ?_) rfl (by kernel_rfl) (by kernel_rfl) (by kernel_rfl) (fun _ _ _ h => h) (Or.inl ⟨by kernel_rfl, ?_⟩) (by assumption) ?_
  rotate_left
  · (intro wx hSw; (try dsimp only at hSw); go_simp; try (with_reducible rfl))
  try simp only [Act.put, List.getElem_toArray, List.getElem_cons_succ, List.getElem_cons_zero, List.setIfInBounds_toArray, List.set_cons_zero, List.set_cons_succ]
  refine wpAnyH_take (i := 2) (v := ?_) rfl (by kernel_rfl) (by kernel_rfl) (by kernel_rfl) (fun _ _ _ h => h) (Or.inl ⟨by kernel_rfl, ?_⟩) (by assumption) ?_
  rotate_left
  · (intro wx hSw; (try dsimp only at hSw); go_simp; try (with_reducible rfl))
  try simp only [Act.put, List.getElem_toArray, List.getElem_cons_succ, List.getElem_cons_zero, List.setIfInBounds_toArray, List.set_cons_zero, List.set_cons_succ]
  refine wpAnyH_take (i := 3) (v := ?_) rfl (by kernel_rfl) (by kernel_rfl) (by kernel_rfl) (fun _ _ _ h => h) (Or.inl ⟨by kernel_rfl, ?_⟩) (by assumption) ?_
  rotate_left
  · (intro wx hSw; (try dsimp only at hSw); go_simp; try (with_reducible rfl))
  try simp only [Act.put, List.getElem_toArray, List.getElem_cons_succ, List.getElem_cons_zero, List.setIfInBounds_toArray, List.set_cons_zero, List.set_cons_succ]
  refine wpAnyH_ready (rs := [4]) (by kernel_rfl) (by simp) ?_
  refine AllReadyH.cons rfl (fun K hK => ?_) AllReadyH.nil
  go_simp
  (go_at_call 83; refine (node_any N _ (w.heap.size + 1) A n c _ hn hN0 hN1 (R4.out.bl (by repeat' (first | exact Bl.refl _ | with_reducible assumption | with_reducible refine Bl.drew_ ?_ | with_reducible refine Bl.drewN_ ?_ _ | with_reducible refine Bl.alloc_ ?_ _ | with_reducible refine Bl.trans_ ?_ (by assumption) | with_reducible refine Bl.trans_ ?_ (And.left (by assumption)))))).mono ?_; rintro e w3 ⟨x, hx, rfl, hr, hg⟩; have hg' := grown_trans (bl_grown (show Bl w4 _ from (by repeat' (first | exact Bl.refl _ | with_reducible assumption | with_reducible refine Bl.drew_ ?_ | with_reducible refine Bl.drewN_ ?_ _ | with_reducible refine Bl.alloc_ ?_ _ | with_reducible refine Bl.trans_ ?_ (by assumption) | with_reducible refine Bl.trans_ ?_ (And.left (by assumption))))) _) hg; have hGG := grown_trans G4.out hg'; obtain ⟨r0, r1, fr0, fr1⟩ := Two.facts ((RES4.out).grown_ hg' (by simp)))
  try (go_wp2_with fail)
  refine hK.out _ _ ?_ (fun hHeld => ?_)
  · (first | exact (HSH.out _ hGG).2 | (refine ⟨?_, ?_⟩ <;> (simp [go_sem, nb, nb', *]; done)))
  clear hK K
  try simp only [Act.put, List.getElem_toArray, List.getElem_cons_succ, List.getElem_cons_zero, List.setIfInBounds_toArray, List.set_cons_zero, List.set_cons_succ]
  refine wpAnyH_ready (rs := [5]) (by kernel_rfl) (by simp) ?_
  refine AllReadyH.cons rfl (fun K hK => ?_) AllReadyH.nil
  go_simp
  refine hK.out _ _ ?_ (fun hHeld => ?_)
  · (first | exact (HSH.out _ hGG).2 | (refine ⟨?_, ?_⟩ <;> (simp [go_sem, nb, nb', *]; done)))
  clear hK K
  try simp only [Act.put, List.getElem_toArray, List.getElem_cons_succ, List.getElem_cons_zero, List.setIfInBounds_toArray, List.set_cons_zero, List.set_cons_succ]
  refine wpAnyH_take (i := 6) (v := ?_) rfl (by kernel_rfl) (by kernel_rfl) (by kernel_rfl) (fun _ _ _ h => h) (Or.inl ⟨by kernel_rfl, ?_⟩) (by assumption) ?_
  rotate_left
  · (intro wx hSw; (try dsimp only at hSw); go_simp; try (with_reducible rfl))
  try simp only [Act.put, List.getElem_toArray, List.getElem_cons_succ, List.getElem_cons_zero, List.setIfInBounds_toArray, List.set_cons_zero, List.set_cons_succ]
  refine wpAnyH_take (i := 7) (v := ?_) rfl (by kernel_rfl) (by kernel_rfl) (by kernel_rfl) (fun _ _ _ h => h) (Or.inl ⟨by kernel_rfl, ?_⟩) (by assumption) ?_
  rotate_left
  · (intro wx hSw; (try dsimp only at hSw); go_simp; try (with_reducible rfl))
  try simp only [Act.put, List.getElem_toArray, List.getElem_cons_succ, List.getElem_cons_zero, List.setIfInBounds_toArray, List.set_cons_zero, List.set_cons_succ]
  refine wpAnyH_done (by kernel_rfl) ?_ _
  go_wp2
  refine bodyPost_ret (v := .tuple #[.agg #[.int .i64 N, .slice A' l c'], .int .i64 s, .int .i64 x]) (by simp [results, Try.results73, go_sem, r0, r1, fr0, fr1]) rfl ?_
  have D3 := (D2.out.bl (Bl.alloc_ (Bl.refl w2) (.cells #[.int .i64 N, .slice A' l c'] 26))).far hGG (by omega)
  have B3 : Bl w w3 := ((((Bl.alloc_ (Bl.refl w) _).trans_ B2.out).alloc_ (.cells #[.int .i64 N, .slice A' l c'] 26)).grown_ hGG (fun g e => by injection e with e; omega))
  exact ⟨N, A', l, c', L, s, x, rfl, ⟨D3.1, D3.2.1, D3.2.2.1, ((D3.2.2.2.set_ (by show w.heap.size < w1.heap.size; omega) _).set_ (by show w.heap.size < w1.heap.size; omega) _).low (by omega)⟩, S4.out, hx, (B3.set_ (Nat.le_refl _) _).set_ (Nat.le_refl _) _⟩

end Go.Proofs.Ytgjgcdpjbpccnaa

set_option linter.unusedSimpArgs false
set_option linter.unusedVariables false
namespace Go.Proofs.Ytgjgcdpjbpccnaa
open Go.RowKit

set_option maxRecDepth 100000 in
set_option maxHeartbeats 1000000 in
theorem drawPathOf_any (A : Option Addr) (n c : Nat) (w : World) (hn : n ≤ 1099511627776) (H : BytesAt w A n) :
    Calls Try.prog 18 #[.slice A n c] w (DrawnG2 w) := by
  have K := Lib.hid H
  clear H
  go_enter Try.func18, Try.ntmps18
  go_wp2_with fail
  refine (drawDistOf_any A n c _ hn (K.out.bl (by repeat' (first | exact Bl.refl _ | with_reducible assumption | with_reducible refine Bl.drew_ ?_ | with_reducible refine Bl.drewN_ ?_ _ | with_reducible refine Bl.alloc_ ?_ _ | with_reducible refine Bl.trans_ ?_ (by assumption) | with_reducible refine Bl.trans_ ?_ (And.left (by assumption)))))).mono ?_
  rintro e w1 ⟨N, A', l, c', L, s, t, rfl, hd, hs, ht, hb⟩
  have D := Lib.hid hd
  have S1 := Lib.hid hs
  have S2 := Lib.hid ht
  have B := Lib.hid hb
  obtain ⟨r0, r1, fr0, fr1⟩ := Two.facts ((Two.new w (.int .i64 0) (.slice none 0 0)).bl hb)
  have sz := hb.size
  simp only [World.size_alloc] at sz
  clear hd hs ht hb
  go_wp2
  refine bodyPost_ret (v := .tuple #[.agg #[.int .i64 N, .slice A' l c'], .int .i64 s, .int .i64 t]) (by simp [results, Try.results18, go_sem, r0, r1, fr0, fr1]) rfl ?_
  have DD := D.out
  rw [World.size_alloc] at DD
  exact ⟨N, A', l, c', L, s, t, rfl, ⟨DD.1, DD.2.1, DD.2.2.1, ((DD.2.2.2.set_ (by show w.heap.size < w.heap.size + 1; omega) _).set_ (by show w.heap.size < w.heap.size + 1; omega) _).low (by omega)⟩, S1.out, S2.out, (((Bl.alloc_ (Bl.refl w) _).trans_ B.out).set_ (Nat.le_refl _) _).set_ (Nat.le_refl _) _⟩

end Go.Proofs.Ytgjgcdpjbpccnaa

set_option linter.unusedSimpArgs false
set_option linter.unusedVariables false
namespace Go.Proofs.Ytgjgcdpjbpccnaa
open Go.RowKit

theorem fromL_len' (v : Int) (L : List Arc3) : (fromL v L).length ≤ L.length := by
  unfold fromL
  exact List.length_filter_le _ _


end Go.Proofs.Ytgjgcdpjbpccnaa

set_option linter.unusedSimpArgs false
set_option linter.unusedVariables false
namespace Go.Proofs.Ytgjgcdpjbpccnaa
open Go.RowKit

theorem cell_new_drewNp (w : World) (n : Nat) (v : Value) (t : TypeId) : ((w.drewN n).alloc (.cells #[v] t)).cell? ⟨w.heap.size, 0, none⟩ = some v := by
  have h : ∀ wz : World, (wz.alloc (.cells #[v] t)).cell? ⟨wz.heap.size, 0, none⟩ = some v := fun wz => by simp [go_sem]
  exact h (w.drewN n)

set_option maxRecDepth 100000 in
set_option maxHeartbeats 4000000 in
theorem l3Path_any (N s t : Int) (A : Option Addr) (n c : Nat) (L : List Arc3) (hn : n = L.length) (hh : has2 N L s t = true) (w : World) (hm : n ≤ 1048576) (H1 : ArcsAt w w.heap.size A L) :
    Calls Try.prog 78 #[.agg #[.int .i64 N, .slice A n c], .int .i64 s, .int .i64 t] w (NumsMade (pathL N L s t) w) := by
  obtain ⟨i0, hi, hz0, hz1, hz2⟩ := info_parts infoInt
  have I0 := Lib.hid hi
  have I1 := Lib.hid hz0
  have I2 := Lib.hid hz1
  have I3 := Lib.hid hz2
  have K1 := Lib.hid H1
  have HN := Lib.hid hn
  have HH := Lib.hid hh
  obtain ⟨ho, ⟨hs0, hs1⟩, ht0, ht1⟩ := has2_of hh
  have hN24 := (okB_elim ho).2.1
  have HO := Lib.hid ho
  have HRO := Lib.hid (revL_ok ho)
  have HRL := Lib.hid (revL_len (okB_elim ho).2.2.2.2)
  have HE := Lib.hid (distL_is (s := t) (arcsIn_of_ok (revL_ok ho)) hN24 ht0 ht1)
  have HET := Lib.hid (fun v => distL_top (s := t) (revL_ok ho) ht0 ht1 v)
  have HEl := Lib.hid (show (distL N (revL L) t).length = N.toNat from distL_len (revL_ok ho) ht0 ht1)
  obtain ⟨u, rfl⟩ : ∃ u : Nat, s = u := ⟨s.toNat, by omega⟩
  obtain ⟨z, rfl⟩ : ∃ z : Nat, N = z := ⟨N.toNat, by omega⟩
  clear hh ho H1 hn hi hz0 hz1 hz2
  go_enter Try.func78, Try.ntmps78
  go_wp2_with fail
  refine (l1Reverse_any z A n c L HN.out _ hm (K1.out.bl (by repeat' (first | exact Bl.refl _ | with_reducible assumption | with_reducible refine Bl.drew_ ?_ | with_reducible refine Bl.drewN_ ?_ _ | with_reducible refine Bl.alloc_ ?_ _ | with_reducible refine Bl.trans_ ?_ (by assumption) | with_reducible refine Bl.trans_ ?_ (And.left (by assumption)))))).mono ?_
  rintro e w1 ⟨v5, rfl, hv5, hb1⟩
  obtain ⟨A5, c5, rfl, ha5, -⟩ := hv5.shape
  have J5 := Lib.hid ha5
  clear hv5 ha5
  go_wp2_with fail
  refine (l3Dist_any z t A5 (revL L).length c5 (revL L) rfl HRO.out ht0 ht1 _ (by rw [HRL.out]; have := HN.out; omega) J5.out).mono ?_
  rintro e w2 ⟨v6, rfl, hv6, hb2⟩
  obtain ⟨A6, c6, rfl, -, hi6, -, lo6⟩ := OwnN.shape hv6
  have J6 := Lib.hid hi6
  have BB := Lib.hid ((Bl.alloc_ (Bl.refl w) (.cells #[.int .i64 (z : Int), .slice A n c] 26)).trans_ (hb1.trans_ hb2))
  have BX := Lib.hid (show ∀ wx, Bl w2 wx → (wx.cell? ⟨w.heap.size, 0, none⟩ = some (.int .i64 (z : Int)) ∧ wx.cell? ⟨w.heap.size, 1, none⟩ = some (.slice A n c)) from fun wx hb => box2 (hb1.trans_ (hb2.trans_ hb)))
  clear hv6 hi6 lo6 hb1 hb2
  have hEl : (distL z (revL L) t).length = z := by rw [HEl.out]; simp
  have EQ := Lib.hid hEl
  rw [hEl]
  have hue : u < (distL (z : Int) (revL L) t).length := by rw [hEl]; omega
  obtain ⟨g6, o6, rfl, hg6, hc6⟩ := J6.out.cell (by omega)
  have q2 := hc6 u hue
  have HDU := Lib.hid (dAt_at hue)
  have CE := Lib.hid hc6
  generalize (distL (z : Int) (revL L) t)[u] = d at q2 HDU
  have u0 : (0 : Int) ≤ (u : Int) := by omega
  have u1 : (u : Int) < (z : Int) := hs1
  clear hc6 hue hEl
  by_cases hd : d < 0
  · have bd : decide (d < 0) = true := by simpa using hd
    have HP := Lib.hid (show pathL z L u t = [] from by
      unfold pathL
      rw [if_neg (by rw [HDU.out, Bool.and_eq_true]; intro h; have := of_decide_eq_true h.2; omega)])
    go_wp2
    go_ret
    exact ⟨_, rfl, by rw [HP.out]; exact OwnN.nil_ _ _, BB.out⟩
  · have bd : decide (d < 0) = false := by simpa using hd
    have HP := Lib.hid (show pathL z L u t = (u : Int) :: stepsL L (distL z (revL L) t) t u from by
      unfold pathL
      rw [if_pos (by rw [HDU.out, Bool.and_eq_true]; exact ⟨HH.out, by simp; omega⟩)])
    have ST := Lib.hid (OnWay.start (L := L) (D := distL z (revL L) t) (t := t) (s := (u : Int)) (by rw [HDU.out]; omega))
    have hdb := (HET.out u).2
    have NW := Lib.hid (fun (v : Int) h0 h1 hv hd => nextL_some (L := L) (v := v) HO.out HE.out h0 h1 hv hd)
    generalize hDD : distL (z : Int) (revL L) t = D at *
    have O0 := Lib.hid (show OwnN (w2.alloc (.cells #[.int .i64 (u : Int)] 2)) w2.heap.size (.slice (some ⟨w2.heap.size, 0, none⟩) 1 1) [(u : Int)] from
      ⟨rfl, .inr ⟨w2.heap.size, 1, #[.int .i64 (u : Int)], rfl, Nat.le_refl _, World.alloc_heap_new _ _, Nat.le_refl _, by unfold maxLen; omega, rfl, rfl⟩⟩)
    clear HE HDU hDD HRL HRO J5
    go_wp2_with fail
    clear q2
    go_loopw [8, 9] (fun pv vv wr => ∃ (P : List Int) (v : Int), (0 ≤ v ∧ v < (z : Int)) ∧ vv = .int .i64 v ∧ OwnN wr w2.heap.size pv P ∧ OnWay L D u t P v ∧ Bl w2 wr) (fun _ vv _ => (dAt D (intOf vv)).toNat)
    case atStart => exact ⟨[(u : Int)], u, ⟨by omega, u1⟩, rfl, O0.out, ST.out, Bl.alloc_ (Bl.refl w2) _⟩
    case round =>
      obtain ⟨P, v, ⟨hv0, hv1⟩, rfl, hO, hway, hbl⟩ := hrel
      have O := Lib.hid hO
      have WY := Lib.hid hway
      obtain ⟨q0, q1⟩ := BX.out _ hbl
      have hPl : P.length ≤ 23001 := hway.len hdb
      clear hO hway
      by_cases hvt : v = t
      · have bv : (v != t) = false := by simpa using hvt
        subst hvt
        go_wp2
        go_ret
        refine ⟨u8, rfl, ?_, BB.out.trans_ hbl⟩
        rw [HP.out, ← WY.out.done]
        exact O.out.low BB.out.size
      · have bv : (v != t) = true := by simpa using hvt
        obtain ⟨a, hnx, haL, ha1, hap, has, ha0, haN, hal⟩ := NW.out v hv0 hv1 hvt WY.out.far
        have WY2 := Lib.hid (WY.out.next hvt hnx hap hal)
        have LT := Lib.hid hal
        have NX := Lib.hid hnx
        clear hnx haL ha1 hap has hal
        go_wp2_with fail
        refine (l1Outs_any z v A n c L HN.out _ hm (K1.out.bl (BB.out.trans_ hbl))).mono ?_
        rintro e w4 ⟨v4, rfl, hv4, hb4⟩
        obtain ⟨A4, c4, rfl, ha4, -⟩ := hv4.shape
        have hR := NX.out
        unfold nextL at hR
        obtain ⟨kf, hkf, hfa, hq, hno⟩ := first_at hR
        have hin : ∀ b ∈ fromL v L, 0 ≤ b.2.1 ∧ b.2.1 < (z : Int) ∧ 1 ≤ b.2.2 ∧ b.2.2 ≤ 1000 := fun b hb => by
          have h := arcsIn_of_ok HO.out b (by unfold fromL at hb; exact (List.mem_filter.1 hb).1)
          exact ⟨h.2.2.1, h.2.2.2.1, h.2.2.2.2.1, h.2.2.2.2.2⟩
        have HIN := Lib.hid hin
        have HQ := Lib.hid hq
        have HNO := Lib.hid hno
        have HFA := Lib.hid hfa
        have V4 := Lib.hid ha4
        have B4 := Lib.hid (hbl.trans_ hb4)
        have O4 := Lib.hid (O.out.bl hb4)
        obtain ⟨R, hRl⟩ : ∃ R, R = (fromL v L).length := ⟨_, rfl⟩
        rw [← hRl]
        have HRR := Lib.hid hRl
        have hkR : kf < R := by rw [hRl]; exact hkf
        have hR48 : R ≤ 1048576 := by rw [hRl]; have := fromL_len' v L; have := HN.out; omega
        obtain ⟨vn, rfl⟩ : ∃ vn : Nat, v = vn := ⟨v.toNat, by omega⟩
        have hvl : vn < D.length := by rw [EQ.out]; omega
        have HDV := Lib.hid (dAt_at hvl)
        clear hv4 ha4 hb4 hR hfa hq hno hin hRl q0 q1 O hbl
        go_wp2_with fail
        go_loopw [9, 11] (fun vv i wx => ∃ k : Nat, k ≤ kf ∧ vv = .int .i64 (vn : Int) ∧ i = .int .i64 k ∧ Bl w4 wx) (fun _ i _ => kf + 1 - (intOf i).toNat)
        case atStart => exact ⟨0, by omega, rfl, rfl, Bl.refl _⟩
        case round =>
          obtain ⟨k, hk, rfl, rfl, hbl⟩ := hrel
          have hkl : k < (fromL (vn : Int) L).length := by rw [← HRR.out]; omega
          obtain ⟨g4, o4, rfl, hg4, hc4⟩ := (V4.out.bl hbl) (by omega)
          obtain ⟨p1, p2, p3⟩ := hc4 k hkl
          obtain ⟨b0, b1, b2, b3⟩ := HIN.out _ (List.getElem_mem hkl)
          have HNK := Lib.hid (fun (h : k < kf) => (show nextB D (vn : Int) ((fromL (vn : Int) L)[k]'hkl) = false from HNO.out k h))
          have HYK := Lib.hid (fun (h : k = kf) => (show (fromL (vn : Int) L)[k] = a from by subst h; exact HFA.out))
          generalize (fromL (vn : Int) L)[k] = b at *
          obtain ⟨x1, y1, z1⟩ := b
          simp only at p1 p2 p3 b0 b1 b2 b3
          obtain ⟨yn, rfl⟩ : ∃ yn : Nat, y1 = yn := ⟨y1.toNat, by omega⟩
          have hyl : yn < D.length := by rw [EQ.out]; omega
          have HDY := Lib.hid (dAt_at hyl)
          have r1 := CE.out yn hyl
          have r2 := CE.out vn hvl
          have hb24 := B4.out.trans_ hbl
          rw [← (bcell hb24).1 _ _ hg6] at r1 r2
          have hty := HET.out yn
          rw [HDY.out] at hty
          have NB := Lib.hid (show nextB D (vn : Int) (x1, (yn : Int), z1) = decide (0 ≤ D[yn] ∧ z1 + D[yn] = D[vn]) from by unfold nextB; simp only; rw [HDY.out, HDV.out])
          generalize D[yn] = dy at *
          generalize hdv : D[vn] = dv at *
          have a1 : IntKind.i64.wrap (z1 + dy) = z1 + dy := IntWalk.i64_in _ (by omega)
          have k0 : (0 : Int) ≤ (k : Int) := by omega
          have k1 : (k : Int) < (R : Int) := by omega
          have y0 : (0 : Int) ≤ (yn : Int) := by omega
          have y2 : (yn : Int) < (z : Int) := b1
          have v0 : (0 : Int) ≤ (vn : Int) := by omega
          have v1 : (vn : Int) < (z : Int) := hv1
          clear hc4 p1
          by_cases h1 : 0 ≤ dy
          · have c1 : decide (0 ≤ dy) = true := by simpa using h1
            by_cases h2 : z1 + dy = dv
            · have c2 : (z1 + dy == dv) = true := by simpa using h2
              have HK := Lib.hid (show k = kf from by
                by_cases e : k < kf
                · have := HNK.out e
                  rw [NB.out, decide_eq_false_iff_not] at this
                  exact absurd ⟨h1, h2⟩ this
                · omega)
              have HA := Lib.hid (HYK.out HK.out)
              have AY := Lib.hid (show a.2.1 = (yn : Int) from by rw [← HA.out])
              have O5 := Lib.hid (O4.out.bl hbl)
              have B5 := Lib.hid hb24
              clear h2 hbl hb24 NB HNK HYK
              go_wp2
              go_quiet (fail)
              go_wp2_with (at_builtin; refine wpList_append_any _ rfl (.tmp 71) (.tmp 73) _ rfl w2.heap.size 2 i0 _ 1 8 Try.underlying29 I0.out I1.out I2.out I3.out rfl (by decide) _ P.length (csI P) rfl (World.ownsRow.alloc (OwnN.bl O5.out (by first | exact Bl.refl _ | exact (Bl.refl _).drew_ | exact (Bl.refl _).drewN_ _)) _) (wr.heap.size + 1) (some ⟨wr.heap.size, 0, none⟩) 1 1 [.int .i64 (yn : Int)] rfl ?c0 (by simp [Value.oneCell']) ?c3 ?c4 ?c5 ?_)
              case c0 =>
                refine ⟨rfl, fun _ => ⟨_, rfl, by show wr.heap.size < wr.heap.size + 1; omega, fun x u hj => ?_⟩⟩
                match x, hj with
                | 0, hj => simp at hj; subst hj; (try simp [Addr.add, go_sem]); (try exact cell_new_drewNp _ _ _ _)
                | (x + 1), hj => simp at hj
              case c3 => unfold maxLen; omega
              case c4 => omega
              case c5 => have := B5.out.size; simp; omega
              intro v' w8 hown' hgrow hwh
              have O8 := Lib.hid (OwnN.snoc (V := P) (x := (yn : Int)) (n := P.length) rfl (by simpa using hown'))
              have B8 : Hid (Bl w2 w8) := by
                refine Lib.hid (Bl.grown_ (B5.out.trans_ ?_) hgrow (fun g hg => (Owns.lt O5.out g hg).1))
                first | exact (Bl.refl wr).alloc_ _ | exact ((Bl.refl wr).alloc_ _).drew_ | exact ((Bl.refl wr).alloc_ _).drewN_ _ | exact ((Bl.refl wr).drewN_ _).alloc_ _
              clear hown' hgrow hwh
              go_wp2
              go_roundw
              case rel => exact ⟨P ++ [(yn : Int)], yn, ⟨y0, y2⟩, rfl, O8.out, by rw [← AY.out]; exact WY2.out, B8.out⟩
              case measure =>
                have h1 := LT.out
                have h2 := WY2.out.far
                rw [AY.out] at h1 h2
                simp only [intOf]
                omega
            · have c2 : (z1 + dy == dv) = false := by simpa using h2
              have HK := Lib.hid (show k < kf from by
                by_cases e : k < kf
                · exact e
                · have e2 : k = kf := by omega
                  have h3 := HQ.out
                  have h4 := HFA.out
                  have h5 := HYK.out e2
                  rw [h4, ← h5, NB.out, decide_eq_true_eq] at h3
                  exact absurd h3.2 h2)
              have hkk := HK.out
              clear h2 NB HNK HYK
              go_wp2
              go_quiet (fail)
              go_wp2
              go_roundw
              case rel => exact ⟨k + 1, by omega, rfl, by go_num, (by repeat' (first | exact Bl.refl _ | with_reducible assumption | with_reducible refine Bl.drew_ ?_ | with_reducible refine Bl.drewN_ ?_ _ | with_reducible refine Bl.alloc_ ?_ _ | with_reducible refine Bl.trans_ ?_ (by assumption) | with_reducible refine Bl.trans_ ?_ (And.left (by assumption))))⟩
              case measure => simp [intOf]; omega
          · have c1 : decide (0 ≤ dy) = false := by simpa using h1
            have HK := Lib.hid (show k < kf from by
              by_cases e : k < kf
              · exact e
              · have e2 : k = kf := by omega
                have h3 := HQ.out
                have h4 := HFA.out
                have h5 := HYK.out e2
                rw [h4, ← h5, NB.out, decide_eq_true_eq] at h3
                exact absurd h3.1 h1)
            have hkk := HK.out
            clear NB HNK HYK
            go_wp2
            go_quiet (fail)
            go_wp2
            go_roundw
            case rel => exact ⟨k + 1, by omega, rfl, by go_num, (by repeat' (first | exact Bl.refl _ | with_reducible assumption | with_reducible refine Bl.drew_ ?_ | with_reducible refine Bl.drewN_ ?_ _ | with_reducible refine Bl.alloc_ ?_ _ | with_reducible refine Bl.trans_ ?_ (by assumption) | with_reducible refine Bl.trans_ ?_ (And.left (by assumption))))⟩
            case measure => simp [intOf]; omega

end Go.Proofs.Ytgjgcdpjbpccnaa

namespace Go.Proofs.Ytgjgcdpjbpccnaa
open Go.Shelf

def idxArcs_ren : Go.Shelf.Ren := ⟨fun | 6 => 130 | n => n, fun | 22 => 24 | 23 => 33 | 25 => 150 | 3 => 3 | 0 => 0 | 4 => 4 | n => n, fun | n => n⟩
theorem idxArcs : Go.Proofs.SlLaysH0.n6 Try.prog idxArcs_ren := {
  mixed := by kernel_rfl
  f6 := ⟨Try.f130.name, by decide, Try.func130.trans (congrArg some (by kernel_rfl))⟩
  t0 := Try.underlying0
  a0 := Try.isAgg0
  z0 := Try.sizeOf0
  v0 := Try.zeroValue0
  t3 := Try.underlying3
  a3 := Try.isAgg3
  z3 := Try.sizeOf3
  v3 := Try.zeroValue3
  t4 := Try.underlying4
  a4 := Try.isAgg4
  z4 := Try.sizeOf4
  v4 := Try.zeroValue4
  t22 := Try.underlying24
  a22 := Try.isAgg24
  z22 := Try.sizeOf24
  v22 := Try.zeroValue24
  t25 := Try.underlying150
  a25 := Try.isAgg150
  z25 := Try.sizeOf150
  v25 := Try.zeroValue150 }

end Go.Proofs.Ytgjgcdpjbpccnaa
