/-
  What is proved here: a graph that is drawn by a code and then hurt: a weight, an end, an arc twice. No conditions beyond those that each theorem states.
-/
import Derived.Test.YtelgjfflhcmljaaQDR
import Derived.Deep.RegionLaw
import Derived.IntWalk
set_option linter.unusedSimpArgs false
set_option linter.unusedVariables false
namespace Go.Proofs.Ytelgjfflhcmljaa
open Go.RowKit

/-- A graph, perhaps hurt, that is drawn by a code. -/
def DrawnG9 (w : World) (e : Ending) (w' : World) : Prop :=
  ∃ (N : Int) (A3 : Option Addr) (l c3 : Nat) (L : List Arc3), e = .returned (.agg #[.int .i64 N, .slice A3 l c3]) ∧ l = L.length ∧ l ≤ 1000 ∧ In64 N ∧ OwnA w' w.heap.size (.slice A3 l c3) L ∧ Bl w w'

theorem cs3_put : ∀ (L : List Arc3) (j r : Nat) (x : Int), j < L.length → r < 3 → ∃ L' : List Arc3, (cs3 L).set (j * 3 + r) (.int .i64 x) = cs3 L' ∧ L'.length = L.length
  | [], j, r, x, h, _ => by simp at h
  | a :: l, 0, r, x, _, hr => by
    have h3 : r = 0 ∨ r = 1 ∨ r = 2 := by omega
    rcases h3 with rfl | rfl | rfl
    · exact ⟨(x, a.2.1, a.2.2) :: l, by simp [cs3], rfl⟩
    · exact ⟨(a.1, x, a.2.2) :: l, by simp [cs3], rfl⟩
    · exact ⟨(a.1, a.2.1, x) :: l, by simp [cs3], rfl⟩
  | a :: l, j + 1, r, x, h, hr => by
    obtain ⟨l', e, hl⟩ := cs3_put l j r x (by simpa using h) hr
    refine ⟨a :: l', ?_, by simp [hl]⟩
    rw [show (j + 1) * 3 + r = j * 3 + r + 1 + 1 + 1 from by omega]
    simp [cs3, e]

/-- The state while a graph is hurt. -/
structure GR (w : World) (rd : Nat) (A : Option Addr) (n c g0 gb b1 : Nat) (N : Int) (A3 : Option Addr) (l c3 : Nat) (L : List Arc3) (wx : World) : Prop where
  len : l = L.length
  box : Two wx gb (.int .i64 N) (.slice A3 l c3)
  res : Two wx g0 (.int .i64 0) (.slice none 0 0)
  own : OwnA wx b1 (.slice A3 l c3) L
  ngb : ∀ g, (Value.slice A3 l c3).ownBlock = some g → g ≠ gb
  rdr : RdAny wx rd A n c
  bl : Bl w wx
  lo0 : w.heap.size ≤ g0
  lo1 : g0 < rd
  lo2 : rd < b1
  lo3 : b1 ≤ gb
  alt : 0 < n → ∀ g off, A = some ⟨g, off, none⟩ → g < w.heap.size
section
variable {w wr w2 : World} {rd : Nat} {A : Option Addr} {n c g0 gb b1 : Nat} {N : Int} {A3 : Option Addr} {l c3 : Nat} {L : List Arc3}
theorem GR.rd_ (h : GR w rd A n c g0 gb b1 N A3 l c3 L wr) (hr : RdAny w2 rd A n c) (hg : wr.grownBy w2 (some rd)) : GR w rd A n c g0 gb b1 N A3 l c3 L w2 := by
  have h0 := h.lo0; have h1 := h.lo1; have h2 := h.lo2; have h3 := h.lo3
  exact ⟨h.len, h.box.grown_ hg (fun e => by injection e with e; omega), h.res.grown_ hg (fun e => by injection e with e; omega), h.own.grown_ hg (fun g e => by injection e with e; omega), h.ngb, hr, h.bl.grown_ hg (fun g e => by injection e with e; omega), h0, h1, h2, h3, h.alt⟩
theorem GR.bl_ (h : GR w rd A n c g0 gb b1 N A3 l c3 L wr) (hb : Bl wr w2) : GR w rd A n c g0 gb b1 N A3 l c3 L w2 :=
  ⟨h.len, h.box.bl hb, h.res.bl hb, OwnA.bl h.own hb, h.ngb, h.rdr.bl hb, h.bl.trans_ hb, h.lo0, h.lo1, h.lo2, h.lo3, h.alt⟩
theorem GR.put {g3 : Nat} (h : GR w rd A n c g0 gb b1 N (some ⟨g3, 0, none⟩) l c3 L wr) {j r : Nat} (hj : j < l) (hr : r < 3) (x : Int) : ∃ L', GR w rd A n c g0 gb b1 N (some ⟨g3, 0, none⟩) l c3 L' (wr.setCell ⟨g3, j * 3 + r, none⟩ (.int .i64 x)) := by
  have h0 := h.lo0; have h1 := h.lo1; have h2 := h.lo2; have h3 := h.lo3
  have h4 := (OwnA.lt h.own g3 rfl).1
  have h5 := h.ngb g3 rfl
  have hl := h.len
  subst hl
  obtain ⟨L', e, el⟩ := cs3_put L j r x hj hr
  refine ⟨L', el.symm, h.box.far (by show gb ≠ g3; omega) _, h.res.far (by show g0 ≠ g3; omega) _, ?_, h.ngb, h.rdr.set_ (by show g3 ≠ rd; omega) (fun h0 g off e => by have := h.alt h0 g off e; show g ≠ g3; omega) _, h.bl.set_ (by show w.heap.size ≤ g3; omega) _, h0, h1, h2, h3, h.alt⟩
  have hs := (Owns.stored (show Owns 82 3 wr b1 (.slice (some ⟨g3, 0, none⟩) L.length c3) L.length (cs3 L) from h.own) (j * 3 + r) (.int .i64 x)).1
  rw [e] at hs
  unfold OwnA
  rw [el]
  exact hs
theorem GR.fin (h : GR w rd A n c g0 gb b1 N A3 l c3 L wr) (hN : In64 N) (hl2 : l ≤ 1000) (x y : Value) :
    DrawnG9 w (.returned (.agg #[.int .i64 N, .slice A3 l c3])) ((wr.setCell ⟨g0, 0, none⟩ x).setCell ⟨g0, 1, none⟩ y) := by
  have h0 := h.lo0; have h1 := h.lo1; have h2 := h.lo2; have h3 := h.lo3
  exact ⟨N, A3, l, c3, L, rfl, h.len, hl2, hN, ((h.own.set_ (by show g0 < b1; omega) _).set_ (by show g0 < b1; omega) _).low (by omega), (h.bl.set_ h0 _).set_ h0 _⟩
theorem GR.some_ (h : GR w rd A n c g0 gb b1 N A3 l c3 L wr) (hk : 0 < l) : ∃ g3, A3 = some ⟨g3, 0, none⟩ ∧ g3 ≠ gb ∧ g3 ≠ g0 := by
  have h1 := h.lo1; have h2 := h.lo2
  rcases h.own.2 with ⟨e, e0⟩ | ⟨g, cap, cur, e, hB, -⟩
  · injection e with e1 e2 e3
    omega
  · injection e with e1 e2 e3
    refine ⟨g, e1, h.ngb g (by rw [e1]; rfl), by omega⟩
theorem GR.at_ {g3 : Nat} (h : GR w rd A n c g0 gb b1 N (some ⟨g3, 0, none⟩) l c3 L wr) {j : Nat} (hj : j < l) {r : Nat} (hr : r < 3) : (∃ x : Int, wr.cell? ⟨g3, j * 3 + r, none⟩ = some (.int .i64 x)) ∧ wr.frozen? ⟨g3, j * 3 + r, none⟩ = false ∧ g3 < wr.heap.size := by
  have hl := h.len
  subst hl
  have h' : wr.ownsRow b1 82 3 (.slice (some ⟨g3, 0, none⟩) L.length c3) L.length (cs3 L) := h.own
  refine ⟨?_, World.ownsRow.frozenAt h' _, (OwnA.lt h.own g3 rfl).2⟩
  obtain ⟨e0, e1, e2⟩ := cs3_at L j hj
  rw [World.ownsRow.cellAt h' (j * 3 + r) (by omega)]
  have h3 : r = 0 ∨ r = 1 ∨ r = 2 := by omega
  rcases h3 with rfl | rfl | rfl
  · exact ⟨_, e0⟩
  · exact ⟨_, e1⟩
  · exact ⟨_, e2⟩
end

theorem step_app2 {P : Program} (w : World) {ops : Array Oper} {o : Oper} {a : Act} {K : Act → World → Prop} {Q : Exit → Act → World → Prop} {E : Prop} (hgd : o.guard = none) (s x : Operand) (t : TypeId)
    (ho : o.op = .call { callee := .builtin .append, args := #[s, x], argTypes := #[t, t] })
    (base : Nat) (e : TypeId) (i : TypeInfo) (z : Value) (size bytes : Nat) (ht : P.underlying t = some (.slice e)) (hi : P.info? e = some i) (hz : i.zero = some z)
    (hsize : i.size = size) (hby : i.bytes = bytes) (hzs : z.cells.size = size) (hsz : 0 < size)
    (v : Value) (n : Nat) (xs : List Value) (hs : a.eval s = v) (hown : w.ownsRow base e size v n xs)
    (B : Nat) (A : Option Addr) (m c : Nat) (news : List Value) (hx : a.eval x = .slice A m c) (hr : Reads w B size A m news) (h1 : ∀ u ∈ news, u.oneCell' = true)
    (h63 : n + m ≤ maxLen) (hbytes : (n + m) * bytes ≤ 140737488355328) (hbase : base ≤ w.heap.size)
    (h : ∀ v' w', w'.ownsRow base e size v' (n + m) (xs ++ news) → w.grownBy w' v.ownBlock → (v'.ownBlock = v.ownBlock ∨ v'.ownBlock = some w.heap.size) → K (a.put o.dst v') w') :
    if Region.wanted o (yielded ops a.tmps) = true then Oper.wp P o a w K Q else E := by
  have hw : Region.wanted o (yielded ops a.tmps) = true := by simp [Region.wanted, hgd]
  rw [if_pos hw]
  exact wp_append_any w s x t ho base e i z size bytes ht hi hz hsize hby hzs hsz v n xs hs hown B A m c news hx hr h1 h63 hbytes hbase h

theorem reads_three {w : World} {g B : Nat} {x y z : Int} (hB : g < B) (h0 : w.cell? ⟨g, 0, none⟩ = some (.int .i64 x)) (h1 : w.cell? ⟨g, 1, none⟩ = some (.int .i64 y)) (h2 : w.cell? ⟨g, 2, none⟩ = some (.int .i64 z)) : Reads w B 3 (some ⟨g, 0, none⟩) 1 [.int .i64 x, .int .i64 y, .int .i64 z] := by
  refine ⟨rfl, fun _ => ⟨_, rfl, hB, fun j u hj => ?_⟩⟩
  match j, hj with
  | 0, hj => simp at hj; subst hj; simpa [Addr.add] using h0
  | 1, hj => simp at hj; subst hj; simpa [Addr.add] using h1
  | 2, hj => simp at hj; subst hj; simpa [Addr.add] using h2
  | (j + 3), hj => simp at hj

set_option maxRecDepth 100000 in
set_option maxHeartbeats 20000000 in
theorem drawGraphOk_any (A : Option Addr) (n c : Nat) (w : World) (hn : n ≤ 1099511627776) (H : BytesAt w A n) :
    Calls Try.prog 123 #[.slice A n c] w (DrawnG9 w) := by
  obtain ⟨i0, hi, hz0, hz1, hz2⟩ := info_parts infoArc
  have I0 := Lib.hid hi
  have I1 := Lib.hid hz0
  have I2 := Lib.hid hz1
  have I3 := Lib.hid hz2
  clear hi hz0 hz1 hz2
  have K := Lib.hid H
  clear H
  go_enter Try.func123, Try.ntmps123
  go_wp2_with fail
  refine (open_any A n c _ (K.out.bl (by repeat' (first | exact Bl.refl _ | with_reducible assumption | with_reducible refine Bl.drew_ ?_ | with_reducible refine Bl.drewN_ ?_ _ | with_reducible refine Bl.alloc_ ?_ _ | with_reducible refine Bl.trans_ ?_ (by assumption) | with_reducible refine Bl.trans_ ?_ (And.left (by assumption)))))).mono ?_
  rintro e w1 ⟨rfl, hr, hb, hlt⟩
  have R1 := Lib.hid (show RdAny w1 (w.heap.size + 1) A n c from by rw [World.size_alloc] at hr; exact hr)
  have B1 := Lib.hid hb
  have s1 := hb.size
  simp only [World.size_alloc] at s1 hlt
  clear hr hb
  go_wp2_with fail
  refine (graph_any 9 (w.heap.size + 1) A n c _ hn (by omega) (by omega) R1.out (fun h0 g off e => by have := K.out.lt' h0 g off e; omega)).mono ?_
  rintro e w2 ⟨N, A', l, c', L, rfl, hd, hr, hg⟩
  have hl200 := hd.2.1
  have HN := Lib.hid hd.2.2.1
  have s2 := hg.size
  have B2 := Lib.hid (show Bl (w.alloc (.cells #[.int .i64 0, .slice none 0 0] 29)) w2 from B1.out.grown_ hg (fun g e => by injection e with e; simp; omega))
  have O2 := Lib.hid hd.2.2.2
  have HL := Lib.hid hd.1
  have R2 := Lib.hid hr
  obtain ⟨X, hX⟩ : ∃ X, X = w2.alloc (.cells #[.int .i64 N, .slice A' l c'] 29) := ⟨_, rfl⟩
  have BX := Lib.hid (show Bl w2 X from by rw [hX]; exact Bl.alloc_ (Bl.refl w2) _)
  have TX := Lib.hid (show Two X w2.heap.size (.int .i64 N) (.slice A' l c') from by rw [hX]; exact Two.new _ _ _)
  obtain ⟨gb, hgb⟩ : ∃ gb, gb = w2.heap.size := ⟨_, rfl⟩
  obtain ⟨b1, hb1⟩ : ∃ b1, b1 = w1.heap.size := ⟨_, rfl⟩
  have S0 := Lib.hid (show GR w (w.heap.size + 1) A n c w.heap.size gb b1 N A' l c' L X from by
    subst hgb
    subst hb1
    refine ⟨HL.out, TX.out, ((Two.new w _ _).bl B2.out).bl BX.out, OwnA.bl O2.out BX.out, fun g hg => by have := (OwnA.lt O2.out g hg).2; omega, R2.out.bl BX.out, ((Bl.alloc_ (Bl.refl w) _).trans_ B2.out).trans_ BX.out, Nat.le_refl _, by omega, by omega, by omega, K.out.lt'⟩)
  clear hd hr hg
  go_wp2_with fail
  rw [← hX, ← hgb]
  clear hX hgb hb1 s1 s2 hlt TX BX O2 HL R2 B2 R1 B1
  refine (once_any 4 (w.heap.size + 1) A n c _ hn (by omega) (by omega) S0.out.rdr).mono ?_
  rintro e w3 ⟨b, rfl, hr, hg⟩
  have U1 := Lib.hid (S0.out.rd_ hr hg)
  have nb : gb ≠ w.heap.size := by have h1 := S0.out.lo1; have h2 := S0.out.lo2; have h3 := S0.out.lo3; omega
  have nb' : w.heap.size ≠ gb := by omega
  clear hr hg S0
  obtain ⟨y0, y1, fy0, fy1⟩ := U1.out.box.facts
  obtain ⟨r0, r1, fr0, fr1⟩ := U1.out.res.facts
  cases b with
  | false =>
    go_wp2
    refine bodyPost_ret (v := .agg #[.int .i64 N, .slice A' l c']) (by simp [results, Try.results123, go_sem, r0, r1, fr0, fr1]) rfl ?_
    exact U1.out.fin HN.out (by omega) _ _
  | true =>
    by_cases hl0 : 0 < l
    · have bk : decide ((0 : Int) < (l : Int)) = true := by simpa using hl0
      go_wp2_with fail
      refine (below_any l (w.heap.size + 1) A n c _ hn (by omega) U1.out.rdr).mono ?_
      rintro e w5 ⟨d, ⟨hd0, hd1⟩, rfl, hr, hg⟩
      have U2 := Lib.hid (U1.out.rd_ hr hg)
      have hdk : d < (l : Int) := by omega
      obtain ⟨dn, rfl⟩ : ∃ dn : Nat, d = dn := ⟨d.toNat, by omega⟩
      clear hr hg hd1 U1 y0 y1 fy0 fy1 r0 r1 fr0 fr1
      go_wp2_with fail
      refine (below_any 3 (w.heap.size + 1) A n c _ hn (by omega) U2.out.rdr).mono ?_
      rintro e w6 ⟨z, ⟨hz0, hz1⟩, rfl, hr, hg⟩
      have U3 := Lib.hid (U2.out.rd_ hr hg)
      obtain ⟨g3, rfl, n1, n3⟩ := U3.out.some_ hl0
      have n2 := n1.symm
      have n4 := n3.symm
      have hdn : dn < l := by omega
      have d0 : (0 : Int) ≤ (dn : Int) := by omega
      clear hr hg U2
      by_cases hz : z = 0
      · subst hz
        obtain ⟨y0, y1, fy0, fy1⟩ := U3.out.box.facts
        go_wp2_with fail
        go_region_with (first
          | (go_at_call 118; refine (off_any 1 1000 (w.heap.size + 1) A n c _ hn (by omega) (by omega) (by omega) (by omega) ((U3.out.bl_ (by repeat' (first | exact Bl.refl _ | with_reducible assumption | with_reducible refine Bl.drew_ ?_ | with_reducible refine Bl.drewN_ ?_ _ | with_reducible refine Bl.alloc_ ?_ _ | with_reducible refine Bl.trans_ ?_ (by assumption) | with_reducible refine Bl.trans_ ?_ (And.left (by assumption))))).rdr)).mono ?_; rintro e w8 ⟨x, hx, rfl, hr, hg⟩; have U4 := Lib.hid ((U3.out.bl_ (by repeat' (first | exact Bl.refl _ | with_reducible assumption | with_reducible refine Bl.drew_ ?_ | with_reducible refine Bl.drewN_ ?_ _ | with_reducible refine Bl.alloc_ ?_ _ | with_reducible refine Bl.trans_ ?_ (by assumption) | with_reducible refine Bl.trans_ ?_ (And.left (by assumption))))).rd_ hr hg); clear hx hr hg; obtain ⟨p0, p1, fp0, fp1⟩ := U4.out.box.facts; obtain ⟨⟨x', k1⟩, k2, k3⟩ := U4.out.at_ hdn (r := 2) (by omega); obtain ⟨L5, hU5⟩ := U4.out.put hdn (r := 2) (by omega) x; have U5 := Lib.hid hU5; clear hU5; obtain ⟨q0, q1, fq0, fq1⟩ := U5.out.box.facts; obtain ⟨r0, r1, fr0, fr1⟩ := U5.out.res.facts))
        all_goals
          go_wp2
          refine bodyPost_ret (v := .agg #[.int .i64 N, .slice (some ⟨g3, 0, none⟩) l c']) (by simp [results, Try.results123, go_sem, r0, r1, fr0, fr1]) rfl ?_
          exact U5.out.fin HN.out (by omega) _ _
      · by_cases hzz : z = 1
        · subst hzz
          obtain ⟨y0, y1, fy0, fy1⟩ := U3.out.box.facts
          go_wp2_with fail
          have hw : In64 (IntKind.i64.wrap (N - 1)) := by rw [IntWalk.i64_left]; exact wrap64_bounds _
          go_region_with (first
            | (go_at_call 118; refine (off_any 0 _ (w.heap.size + 1) A n c _ hn (by omega) (by omega) hw.1 hw.2 ((U3.out.bl_ (by repeat' (first | exact Bl.refl _ | with_reducible assumption | with_reducible refine Bl.drew_ ?_ | with_reducible refine Bl.drewN_ ?_ _ | with_reducible refine Bl.alloc_ ?_ _ | with_reducible refine Bl.trans_ ?_ (by assumption) | with_reducible refine Bl.trans_ ?_ (And.left (by assumption))))).rdr)).mono ?_; rintro e w8 ⟨x, hx, rfl, hr, hg⟩; have U4 := Lib.hid ((U3.out.bl_ (by repeat' (first | exact Bl.refl _ | with_reducible assumption | with_reducible refine Bl.drew_ ?_ | with_reducible refine Bl.drewN_ ?_ _ | with_reducible refine Bl.alloc_ ?_ _ | with_reducible refine Bl.trans_ ?_ (by assumption) | with_reducible refine Bl.trans_ ?_ (And.left (by assumption))))).rd_ hr hg); clear hx hr hg; obtain ⟨p0, p1, fp0, fp1⟩ := U4.out.box.facts; obtain ⟨⟨x', k1⟩, k2, k3⟩ := U4.out.at_ hdn (r := 1) (by omega); obtain ⟨L5, hU5⟩ := U4.out.put hdn (r := 1) (by omega) x; have U5 := Lib.hid hU5; clear hU5; obtain ⟨q0, q1, fq0, fq1⟩ := U5.out.box.facts; obtain ⟨r0, r1, fr0, fr1⟩ := U5.out.res.facts))
          all_goals
            go_wp2
            refine bodyPost_ret (v := .agg #[.int .i64 N, .slice (some ⟨g3, 0, none⟩) l c']) (by simp [results, Try.results123, go_sem, r0, r1, fr0, fr1]) rfl ?_
            exact U5.out.fin HN.out (by omega) _ _
        · obtain rfl : z = 2 := by omega
          obtain ⟨y0, y1, fy0, fy1⟩ := U3.out.box.facts
          obtain ⟨r0, r1, fr0, fr1⟩ := U3.out.res.facts
          obtain ⟨⟨x0, k0⟩, -, k3⟩ := U3.out.at_ hdn (r := 0) (by omega)
          rw [Nat.add_zero] at k0
          obtain ⟨⟨x1, k1⟩, -, -⟩ := U3.out.at_ hdn (r := 1) (by omega)
          obtain ⟨⟨x2, k2⟩, -, -⟩ := U3.out.at_ hdn (r := 2) (by omega)
          go_wp2_with fail
          have OW := Lib.hid (show Owns 82 3 w6 b1 (.slice (some ⟨g3, 0, none⟩) l c') l (cs3 L) from by have h := U3.out.own; unfold OwnA at h; rw [← U3.out.len] at h; exact h)
          have hol := Lib.hid (fun g h => (Owns.lt OW.out g h).1)
          have LE := Lib.hid U3.out.len
          have l0 := U3.out.lo0
          have l1 := U3.out.lo1
          have l2 := U3.out.lo2
          have l3 := U3.out.lo3
          have gbl : gb < w6.heap.size := World.rowIs.lt U3.out.box
          go_region_law (first | (refine step_app2 _ rfl (.tmp 26) (.tmp 32) 27 rfl b1 82 i0 _ 3 24 Try.underlying27 I0.out I1.out I2.out I3.out rfl (by decide) (.slice (some ⟨g3, 0, none⟩) l c') l (cs3 L) rfl (Owns.bl OW.out (by repeat' (first | exact Bl.refl _ | with_reducible assumption | with_reducible refine Bl.drew_ ?_ | with_reducible refine Bl.drewN_ ?_ _ | with_reducible refine Bl.alloc_ ?_ _ | with_reducible refine Bl.trans_ ?_ (by assumption) | with_reducible refine Bl.trans_ ?_ (And.left (by assumption))))) (w6.heap.size + 1) (some ⟨w6.heap.size, 0, none⟩) 1 1 [.int .i64 x0, .int .i64 x1, .int .i64 x2] rfl (reads_three (by omega) (by simp [go_sem]) (by simp [go_sem]) (by simp [go_sem])) (by simp [Value.oneCell']) (by unfold maxLen; omega) (by omega) (by simp <;> omega) ?_; intro v' w8 hown' hgrow hwh; have O8 := Lib.hid (show OwnA w8 b1 v' (L ++ [(x0, x1, x2)]) from by (unfold OwnA; rw [cs3_append, List.length_append, ← LE.out]; exact hown')); have N8 := Lib.hid (show ∀ g, v'.ownBlock = some g → g ≠ gb from fun g hg => by (rcases hwh with h | h <;> rw [h] at hg <;> simp [Value.ownBlock] at hg <;> omega)); have T8 := Lib.hid (Two.grown_ (U3.out.box.bl (by repeat' (first | exact Bl.refl _ | with_reducible assumption | with_reducible refine Bl.drew_ ?_ | with_reducible refine Bl.drewN_ ?_ _ | with_reducible refine Bl.alloc_ ?_ _ | with_reducible refine Bl.trans_ ?_ (by assumption) | with_reducible refine Bl.trans_ ?_ (And.left (by assumption))))) hgrow (fun e => by simp [Value.ownBlock] at e; omega)); have T9 := Lib.hid (Two.grown_ (U3.out.res.bl (by repeat' (first | exact Bl.refl _ | with_reducible assumption | with_reducible refine Bl.drew_ ?_ | with_reducible refine Bl.drewN_ ?_ _ | with_reducible refine Bl.alloc_ ?_ _ | with_reducible refine Bl.trans_ ?_ (by assumption) | with_reducible refine Bl.trans_ ?_ (And.left (by assumption))))) hgrow (fun e => by simp [Value.ownBlock] at e; omega)); have B8 := Lib.hid (Bl.grown_ (U3.out.bl.trans_ (by repeat' (first | exact Bl.refl _ | with_reducible assumption | with_reducible refine Bl.drew_ ?_ | with_reducible refine Bl.drewN_ ?_ _ | with_reducible refine Bl.alloc_ ?_ _ | with_reducible refine Bl.trans_ ?_ (by assumption) | with_reducible refine Bl.trans_ ?_ (And.left (by assumption))))) hgrow (fun g hg => by have := hol.out g hg; omega)); obtain ⟨A9, c9, e9, -, -⟩ := OwnA.shape O8.out; subst e9; obtain ⟨p0, p1, fp0, fp1⟩ := T8.out.facts; obtain ⟨q0, q1, fq0, fq1⟩ := T9.out.facts; obtain ⟨d0', d1', e0', e1'⟩ := (T8.out.set1 (.slice A9 (L ++ [(x0, x1, x2)]).length c9)).facts; obtain ⟨r0', r1', fr0', fr1'⟩ := (T9.out.far (p := ⟨gb, 1, none⟩) nb' (.slice A9 (L ++ [(x0, x1, x2)]).length c9)).facts; clear hown' hgrow hwh))
          all_goals
            go_wp2
            have hlen : (L ++ [(x0, x1, x2)]).length = L.length + 1 := by simp
            refine bodyPost_ret (v := .agg #[.int .i64 N, .slice A9 (L.length + 1) c9]) (by simp [results, Try.results123, go_sem, q0, q1, fq0, fq1, r0', r1', fr0', fr1', nb, nb']) rfl ?_
            have O9 := Lib.hid (show OwnA (w8.setCell ⟨gb, 1, none⟩ (.slice A9 (L.length + 1) c9)) b1 (.slice A9 (L.length + 1) c9) (L ++ [(x0, x1, x2)]) from by
              have z := Lib.hid (show OwnA (w8.setCell ⟨gb, 1, none⟩ (.slice A9 (L ++ [(x0, x1, x2)]).length c9)) b1 (.slice A9 (L ++ [(x0, x1, x2)]).length c9) (L ++ [(x0, x1, x2)]) from Owns.setOther O8.out (fun g hg e => N8.out g hg e) _)
              rw [hlen] at z
              exact z.out)
            have le := LE.out
            exact ⟨N, A9, L.length + 1, c9, L ++ [(x0, x1, x2)], rfl, hlen.symm, by omega, HN.out, ((O9.out.set_ (by show w.heap.size < b1; omega) _).set_ (by show w.heap.size < b1; omega) _).low (by omega), ((B8.out.set_ (p := ⟨gb, 1, none⟩) (by show w.heap.size ≤ gb; omega) _).set_ (Nat.le_refl _) _).set_ (Nat.le_refl _) _⟩
    · have bk : decide ((0 : Int) < (l : Int)) = false := by simpa using hl0
      go_wp2
      refine bodyPost_ret (v := .agg #[.int .i64 N, .slice A' l c']) (by simp [results, Try.results123, go_sem, r0, r1, fr0, fr1]) rfl ?_
      exact U1.out.fin HN.out (by omega) _ _

end Go.Proofs.Ytelgjfflhcmljaa
