/-
  What is proved here: spec.Weighed puts an arc of a new weight in its place, as the model does; two cells in a block of their own; a graph that is put together arc by arc; spec.Reversed turns the arcs of a right graph and puts them in order, as the model does; which nodes reaches leave, told; the model's Pruned and QueryReach; plain facts: among the nodes that reaches leave it is as far from the one to the other; plain facts: the nodes that reaches leave hold those of the shortest paths, and among them it is as far; a graph in a box of its own that grows arc by arc; the reader of a code hands out numbers now and then outside of bounds, and nodes. No conditions beyond those that each theorem states.
-/
import Derived.Test.YtgjgcdpjbpccnaaKG13
import Derived.Deep.RegionLaw
import Derived.Test.YtgjgcdpjbpccnaaKG04
import Derived.Test.YtgjgcdpjbpccnaaKG10
import Derived.Test.YtgjgcdpjbpccnaaKRB
set_option linter.unusedSimpArgs false
set_option linter.unusedVariables false
namespace Go.Proofs.Ytgjgcdpjbpccnaa
open Go.RowKit

theorem step_append_own {P : Program} (w : World) {ops : Array Oper} {o : Oper} {a : Act} {K : Act → World → Prop} {Q : Exit → Act → World → Prop} {E : Prop} (hgd : o.guard = none) (s x : Operand) (t : TypeId)
    (ho : o.op = .call { callee := .builtin .append, args := #[s, x], argTypes := #[t, t] })
    (base : Nat) (e : TypeId) (i : TypeInfo) (z : Value) (size bytes : Nat) (ht : P.underlying t = some (.slice e)) (hi : P.info? e = some i) (hz : i.zero = some z)
    (hsize : i.size = size) (hby : i.bytes = bytes) (hzs : z.cells.size = size) (hsz : 0 < size)
    (v : Value) (n : Nat) (xs : List Value) (hs : a.eval s = v) (hown : w.ownsRow base e size v n xs)
    (ad : Addr) (m c : Nat) (news : List Value) (hx : a.eval x = .slice (some ad) m c) (hl : news.length = m * size) (hnews : ∀ j u, news[j]? = some u → w.cell? (ad.add j) = some u) (h1 : ∀ u ∈ news, u.oneCell' = true)
    (h63 : n + m ≤ maxLen) (hbytes : (n + m) * bytes ≤ 140737488355328) (hbase : base ≤ w.heap.size)
    (h : ∀ v' w', w'.ownsRow base e size v' (n + m) (xs ++ news) → w.grownBy w' v.ownBlock → K (a.put o.dst v') w') :
    if Region.wanted o (yielded ops a.tmps) = true then Oper.wp P o a w K Q else E := by
  have hw : Region.wanted o (yielded ops a.tmps) = true := by simp [Region.wanted, hgd]
  rw [if_pos hw]
  exact wp_append_own w s x t ho base e i z size bytes ht hi hz hsize hby hzs hsz v n xs hs hown ad m c news hx hl hnews h1 h63 hbytes hbase fun v' w' h2 h3 _ => h v' w' h2 h3



/-- A new graph is left. -/
def GraphMade1 (N : Int) (M : List Arc3) (w : World) (e : Ending) (w' : World) : Prop := ∃ v, e = .returned (.agg #[.int .i64 N, v]) ∧ OwnA w' w.heap.size v M ∧ Bl w w'


end Go.Proofs.Ytgjgcdpjbpccnaa

set_option linter.unusedSimpArgs false
set_option linter.unusedVariables false
namespace Go.Proofs.Ytgjgcdpjbpccnaa
open Go.RowKit

theorem OwnA.grown_ {w w' : World} {B : Nat} {v : Value} {L : List Arc3} {row : Option Nat} (h : OwnA w B v L) (hg : w.grownBy w' row) (hne : ∀ g, row = some g → g < B) : OwnA w' B v L :=
  World.ownsRow.kept h hg (by
    cases hv : v.ownBlock with
    | none => exact .inl rfl
    | some g =>
      refine .inr fun e => ?_
      have h1 := (h.lt g hv).1
      have h2 := hne g e.symm
      omega)

/-- Two cells, in a block of their own. -/
def Two (w : World) (g : Nat) (a b : Value) : Prop := w.rowIs g 26 2 (fun i => if i = 0 then a else b)
theorem Two.new (w : World) (a b : Value) : Two (w.alloc (.cells #[a, b] 26)) w.heap.size a b :=
  World.rowIs_alloc w #[a, b] _ _ (fun i hi => by
    have : i = 0 ∨ i = 1 := by simp at hi; omega
    rcases this with rfl | rfl <;> simp)
theorem Two.facts {w : World} {g : Nat} {a b : Value} (h : Two w g a b) : w.cell? ⟨g, 0, none⟩ = some a ∧ w.cell? ⟨g, 1, none⟩ = some b ∧ w.frozen? ⟨g, 0, none⟩ = false ∧ w.frozen? ⟨g, 1, none⟩ = false :=
  ⟨h.cell (i := 0) (by omega), h.cell (i := 1) (by omega), h.frozen 0, h.frozen 1⟩
theorem Two.bl {w w' : World} {g : Nat} {a b : Value} (h : Two w g a b) (hb : Bl w w') : Two w' g a b := row_bl h hb
theorem Two.grown_ {w w' : World} {g : Nat} {a b : Value} {row : Option Nat} (h : Two w g a b) (hg : w.grownBy w' row) (hne : some g ≠ row) : Two w' g a b := World.rowIs.of_block h (hg.block g (World.rowIs.lt h) hne)
theorem Two.far {w : World} {g : Nat} {a b : Value} (h : Two w g a b) {p : Addr} (hp : g ≠ p.block) (u : Value) : Two (w.setCell p u) g a b := World.rowIs.setOther h hp u
theorem Two.set1 {w : World} {g : Nat} {a b : Value} (h : Two w g a b) (u : Value) : Two (w.setCell ⟨g, 1, none⟩ u) g a u :=
  (World.rowIs.set h 1 u).congr fun i hi => by
    have : i = 0 ∨ i = 1 := by omega
    rcases this with rfl | rfl <;> simp
theorem Two.set0 {w : World} {g : Nat} {a b : Value} (h : Two w g a b) (u : Value) : Two (w.setCell ⟨g, 0, none⟩ u) g u b :=
  (World.rowIs.set h 0 u).congr fun i hi => by
    have : i = 0 ∨ i = 1 := by omega
    rcases this with rfl | rfl <;> simp

/-- A graph of N nodes is put together in the box tb; the result's box is g0, still empty; P: the argument's box. -/
structure TS (w : World) (P : Obj) (g0 tb : Nat) (N : Int) (q : Value) (L : List Arc3) (wr : World) : Prop where
  box : Two wr tb (.int .i64 N) q
  res : Two wr g0 (.int .i64 0) (.slice none 0 0)
  own : OwnA wr (tb + 1) q L
  bl : Bl (w.alloc P) wr
  lo : w.heap.size < g0 ∧ g0 < tb
section
variable {w w2 wr : World} {P : Obj} {g0 tb : Nat} {N : Int} {q : Value} {L : List Arc3}
theorem TS.bl_ (h : TS w P g0 tb N q L wr) (hb : Bl wr w2) : TS w P g0 tb N q L w2 :=
  ⟨h.box.bl hb, h.res.bl hb, OwnA.bl h.own hb, h.bl.trans_ hb, h.lo⟩
theorem TS.grown_ (h : TS w P g0 tb N q L wr) (hg : wr.grownBy w2 q.ownBlock) {q2 : Value} {L2 : List Arc3} (ho : OwnA w2 (tb + 1) q2 L2) : Two w2 tb (.int .i64 N) q ∧ Two w2 g0 (.int .i64 0) (.slice none 0 0) ∧ Bl (w.alloc P) w2 := by
  obtain ⟨l1, l2⟩ := h.lo
  have key : ∀ g, g ≤ tb → some g ≠ q.ownBlock := fun g hg e => by
    have := (h.own.lt g e.symm).1
    omega
  exact ⟨h.box.grown_ hg (key tb (by omega)), h.res.grown_ hg (key g0 (by omega)), h.bl.grown_ hg (fun g e => by
    have := (h.own.lt g e).1
    simp
    omega)⟩
theorem TS.same (h : TS w P g0 tb N q L wr) (hg : wr.grownBy w2 q.ownBlock) {L2 : List Arc3} (ho : OwnA w2 (tb + 1) q L2) : TS w P g0 tb N q L2 w2 := by
  obtain ⟨a, b, c⟩ := h.grown_ hg ho
  exact ⟨a, b, ho, c, h.lo⟩
theorem TS.app (h : TS w P g0 tb N q L wr) (hg : wr.grownBy w2 q.ownBlock) {q2 : Value} {L2 : List Arc3} (ho : OwnA w2 (tb + 1) q2 L2) : TS w P g0 tb N q2 L2 (w2.setCell ⟨tb, 1, none⟩ q2) := by
  obtain ⟨a, b, c⟩ := h.grown_ hg ho
  obtain ⟨l1, l2⟩ := h.lo
  exact ⟨a.set1 q2, b.far (by show g0 ≠ tb; omega) q2, ho.set_ (by show tb < tb + 1; omega) q2, c.set_ (by simp; omega) q2, h.lo⟩
theorem TS.put (h : TS w P g0 tb N q L wr) {q2 : Value} {L2 : List Arc3} (ho : OwnA wr (tb + 1) q2 L2) : TS w P g0 tb N q2 L2 (wr.setCell ⟨tb, 1, none⟩ q2) := by
  obtain ⟨l1, l2⟩ := h.lo
  exact ⟨h.box.set1 q2, h.res.far (by show g0 ≠ tb; omega) q2, ho.set_ (by show tb < tb + 1; omega) q2, h.bl.set_ (by simp; omega) q2, h.lo⟩
theorem TS.fin (h : TS w P g0 tb N q L wr) (x y : Value) : OwnA ((wr.setCell ⟨g0, 0, none⟩ x).setCell ⟨g0, 1, none⟩ y) w.heap.size q L ∧ Bl w ((wr.setCell ⟨g0, 0, none⟩ x).setCell ⟨g0, 1, none⟩ y) := by
  obtain ⟨l1, l2⟩ := h.lo
  have hb : Bl w wr := (Bl.alloc_ (Bl.refl w) P).trans_ h.bl
  exact ⟨((h.own.set_ (by show g0 < tb + 1; omega) x).set_ (by show g0 < tb + 1; omega) y).low (by omega), (hb.set_ (by show w.heap.size ≤ g0; omega) x).set_ (by show w.heap.size ≤ g0; omega) y⟩
end

/-- A graph that is turned: none, where it is not right. -/
def revN (N : Int) (L : List Arc3) : Int := if okB N L = true then N else 0
def revG (N : Int) (L : List Arc3) : List Arc3 := if okB N L = true then revL L else []
/-- The first k arcs, turned, in order. -/
def revK (L : List Arc3) (k : Nat) : List Arc3 := (L.take k).foldl (fun acc a => putL (turnA a) acc) []
theorem revK_succ {L : List Arc3} {k : Nat} (h : k < L.length) : revK L (k + 1) = putL (turnA L[k]) (revK L k) := by
  unfold revK
  rw [List.take_succ_eq_append_getElem h, List.foldl_append]
  rfl
theorem revK_all (L : List Arc3) : revK L L.length = revL L := by
  unfold revK revL
  rw [List.take_length]
theorem revK_len (L : List Arc3) : ∀ k, k ≤ L.length → (revK L k).length ≤ k
  | 0, _ => by simp [revK]
  | k + 1, h => by
    rw [revK_succ (by omega)]
    have h1 := putL_len (turnA L[k]) (revK L k)
    have h2 := revK_len L k (by omega)
    omega
/-- The first k arcs, turned. -/
def turnK (L : List Arc3) (k : Nat) : List Arc3 := (L.take k).map turnA
theorem turnK_succ {L : List Arc3} {k : Nat} (h : k < L.length) : turnK L (k + 1) = turnK L k ++ [turnA L[k]] := by
  unfold turnK
  rw [List.take_succ_eq_append_getElem h, List.map_append]
  rfl
theorem turnK_len (L : List Arc3) (k : Nat) : (turnK L k).length ≤ k := by
  unfold turnK
  rw [List.length_map]
  exact List.length_take_le _ _
theorem turnK_all (L : List Arc3) : turnK L L.length = L.map turnA := by
  unfold turnK
  rw [List.take_length]

end Go.Proofs.Ytgjgcdpjbpccnaa

set_option linter.unusedSimpArgs false
set_option linter.unusedVariables false
namespace Go.Proofs.Ytgjgcdpjbpccnaa
open Go.RowKit

set_option maxRecDepth 100000 in
set_option maxHeartbeats 4000000 in
theorem l1Reverse_any (N : Int) (A : Option Addr) (n c : Nat) (L : List Arc3) (hn : n = L.length) (w : World) (hm : n ≤ 1048576) (H1 : ArcsAt w w.heap.size A L) :
    Calls Try.prog 132 #[.agg #[.int .i64 N, .slice A n c]] w (GraphMade1 N (revL L) w) := by
  have K1 := Lib.hid H1
  have HN := Lib.hid hn
  clear H1 hn
  have T0 := Lib.hid (show TS w (.cells #[.int .i64 N, .slice A n c] 26) (w.heap.size + 1) (w.heap.size + 2) N (.slice none 0 0) [] (((w.alloc (.cells #[.int .i64 N, .slice A n c] 26)).alloc (.cells #[.int .i64 0, .slice none 0 0] 26)).alloc (.cells #[.int .i64 N, .slice none 0 0] 26)) from by
    refine ⟨?_, ?_, OwnA.nil_ _ _, (by repeat' (first | exact Bl.refl _ | with_reducible assumption | with_reducible refine Bl.drew_ ?_ | with_reducible refine Bl.drewN_ ?_ _ | with_reducible refine Bl.alloc_ ?_ _ | with_reducible refine Bl.trans_ ?_ (by assumption) | with_reducible refine Bl.trans_ ?_ (And.left (by assumption)))), by omega, by omega⟩
    · have := Two.new ((w.alloc (.cells #[.int .i64 N, .slice A n c] 26)).alloc (.cells #[.int .i64 0, .slice none 0 0] 26)) (.int .i64 N) (.slice none 0 0)
      simpa using this
    · have := Two.new (w.alloc (.cells #[.int .i64 N, .slice A n c] 26)) (.int .i64 0) (.slice none 0 0)
      have := this.bl (Bl.alloc_ (Bl.refl _) (.cells #[.int .i64 N, .slice none 0 0] 26))
      simpa using this)
  go_enter Try.func132, Try.ntmps132
  go_wp2_with fail
  go_loopw [4] (fun i wr => ∃ (k : Nat) (q : Value), k ≤ n ∧ i = .int .i64 k ∧ TS w (.cells #[.int .i64 N, .slice A n c] 26) (w.heap.size + 1) (w.heap.size + 2) N q (revK L k) wr) (fun i _ => n - (intOf i).toNat)
  case atStart => exact ⟨0, _, by omega, rfl, T0.out⟩
  case round =>
    obtain ⟨k, q, hk, rfl, hT⟩ := hrel
    obtain ⟨h00, h01⟩ := box2 hT.bl
    obtain ⟨c0, c1, f0, f1⟩ := hT.box.facts
    obtain ⟨AQ, cq, rfl, hAQ, -⟩ := hT.own.shape
    have T := Lib.hid hT
    have Q := Lib.hid hAQ
    have hbw : Bl w wr := (Bl.alloc_ (Bl.refl w) _).trans_ hT.bl
    have HB := Lib.hid hbw
    clear hT hAQ T0
    by_cases hlt : k < n
    · have hkl : k < L.length := by have := HN.out; omega
      obtain ⟨g1, o1, rfl, hg1, hc1⟩ := K1.out (by omega)
      obtain ⟨p1, p2, p3⟩ := hc1 k hkl
      clear hc1
      rw [← (bcell hbw).1 _ _ hg1] at p1 p2 p3
      have RK := Lib.hid (revK_succ hkl)
      have hlen := revK_len L k (by omega)
      generalize hx : L[k].1 = x at p1
      generalize hy : L[k].2.1 = y at p2
      generalize hz : L[k].2.2 = z at p3
      have HE := Lib.hid (show turnA L[k] = (y, x, z) from by unfold turnA; rw [hx, hy, hz])
      clear hx hy hz hbw
      obtain ⟨l, hl⟩ : ∃ l, l = (revK L k).length := ⟨_, rfl⟩
      rw [← hl] at hlen c1 T
      have HL := Lib.hid hl
      clear hl
      have u1 : (0 : Int) ≤ (k : Int) := by omega
      have u2 : (k : Int) < (n : Int) := by omega
      go_wp2_with fail
      have TD := Lib.hid (T.out.bl_ (show Bl wr wr.drew from (by repeat' (first | exact Bl.refl _ | with_reducible assumption | with_reducible refine Bl.drew_ ?_ | with_reducible refine Bl.drewN_ ?_ _ | with_reducible refine Bl.alloc_ ?_ _ | with_reducible refine Bl.trans_ ?_ (by assumption) | with_reducible refine Bl.trans_ ?_ (And.left (by assumption))))))
      have e0 := (TD.out.box.facts).1
      go_still_tail 21, (by kernel_rfl)
      change wpList _ _ _ _ _ wr.drew
      go_wp2_with fail
      refine (l1Put_any y x z AQ l cq (revK L k) HL.out _ (by omega) (Q.out.bl (by repeat' (first | exact Bl.refl _ | with_reducible assumption | with_reducible refine Bl.drew_ ?_ | with_reducible refine Bl.drewN_ ?_ _ | with_reducible refine Bl.alloc_ ?_ _ | with_reducible refine Bl.trans_ ?_ (by assumption) | with_reducible refine Bl.trans_ ?_ (And.left (by assumption)))))).mono ?_
      rintro e w9 ⟨v4, rfl, ho, hb⟩
      obtain ⟨AB, cb, rfl, -, -⟩ := ho.shape
      have hlen2 := putL_len (y, x, z) (revK L k)
      have U4 := Lib.hid (TD.out.bl_ hb)
      have O4 := Lib.hid (U4.out.put (q2 := _) (L2 := putL (y, x, z) (revK L k)) (ho.low (World.rowIs.lt TD.out.box)))
      obtain ⟨d0, d1, k0, k1⟩ := U4.out.box.facts
      clear ho c0 c1 f0 f1 e0
      go_wp2
      go_roundw
      case rel => exact ⟨k + 1, _, by omega, by go_num, by rw [RK.out, HE.out]; exact O4.out⟩
      case measure => simp [intOf]; omega
    · obtain rfl : k = n := by omega
      have RA := Lib.hid (show revK L k = revL L from by rw [HN.out]; exact revK_all L)
      obtain ⟨r0, r1, fr0, fr1⟩ := T.out.res.facts
      go_wp2
      refine bodyPost_ret (v := .agg #[.int .i64 N, .slice AQ (revK L k).length cq]) (by simp [results, Try.results132, go_sem, r0, r1, fr0, fr1]) rfl ?_
      have := T.out.fin (.int .i64 N) (.slice AQ (revK L k).length cq)
      rw [RA.out] at this ⊢
      exact ⟨_, rfl, this.1, this.2⟩


end Go.Proofs.Ytgjgcdpjbpccnaa

set_option linter.unusedSimpArgs false
set_option linter.unusedVariables false
namespace Go.Proofs.Ytgjgcdpjbpccnaa
open Go.RowKit



end Go.Proofs.Ytgjgcdpjbpccnaa

set_option linter.unusedSimpArgs false
set_option linter.unusedVariables false
namespace Go.Proofs.Ytgjgcdpjbpccnaa
open Go.RowKit





end Go.Proofs.Ytgjgcdpjbpccnaa

set_option linter.unusedSimpArgs false
set_option linter.unusedVariables false
namespace Go.Proofs.Ytgjgcdpjbpccnaa
open Go.RowKit



end Go.Proofs.Ytgjgcdpjbpccnaa

set_option linter.unusedSimpArgs false
set_option linter.unusedVariables false
namespace Go.Proofs.Ytgjgcdpjbpccnaa
open Go.RowKit

/-- A graph of N nodes grows in the box pb. -/
structure PS (wb : World) (pb : Nat) (N : Int) (q : Value) (M : List Arc3) (wr : World) : Prop where
  box : Two wr pb (.int .i64 N) q
  own : OwnA wr (pb + 1) q M
  bl : Bl wb wr
  lo : wb.heap.size ≤ pb
section
variable {wb w2 wr : World} {pb : Nat} {N : Int} {q : Value} {M : List Arc3}
theorem PS.new (w : World) (N : Int) : PS w w.heap.size N (.slice none 0 0) [] (w.alloc (.cells #[.int .i64 N, .slice none 0 0] 26)) :=
  ⟨Two.new w _ _, OwnA.nil_ _ _, Bl.alloc_ (Bl.refl w) _, Nat.le_refl _⟩
theorem PS.bl_ (h : PS wb pb N q M wr) (hb : Bl wr w2) : PS wb pb N q M w2 :=
  ⟨h.box.bl hb, OwnA.bl h.own hb, h.bl.trans_ hb, h.lo⟩
theorem PS.grown_ (h : PS wb pb N q M wr) (hg : wr.grownBy w2 q.ownBlock) : Two w2 pb (.int .i64 N) q ∧ Bl wb w2 := by
  have l1 := h.lo
  exact ⟨h.box.grown_ hg (fun e => by have := (h.own.lt pb e.symm).1; omega), h.bl.grown_ hg (fun g e => by
    have := (h.own.lt g e).1
    omega)⟩
theorem PS.app (h : PS wb pb N q M wr) (hg : wr.grownBy w2 q.ownBlock) {q2 : Value} {M2 : List Arc3} (ho : OwnA w2 (pb + 1) q2 M2) : PS wb pb N q2 M2 (w2.setCell ⟨pb, 1, none⟩ q2) := by
  obtain ⟨a, b⟩ := h.grown_ hg
  have l1 := h.lo
  exact ⟨a.set1 q2, ho.set_ (by show pb < pb + 1; omega) q2, b.set_ (by show wb.heap.size ≤ pb; omega) q2, h.lo⟩
end

end Go.Proofs.Ytgjgcdpjbpccnaa

set_option linter.unusedSimpArgs false
set_option linter.unusedVariables false
namespace Go.Proofs.Ytgjgcdpjbpccnaa
open Go.RowKit



set_option maxHeartbeats 2000000 in
theorem node_any (N : Int) (v : Value) (rd : Nat) (A : Option Addr) (n c : Nat) (w : World) (hn : n ≤ 1099511627776) (h0 : -9223372036854775808 ≤ N) (h1 : N ≤ 9223372036854775807) (HR : RdAny w rd A n c) :
    Calls Try.prog 83 #[.pointer (some ⟨rd, 0, none⟩), .agg #[.int .i64 N, v]] w (RdPost In64 rd A n c w) := by
  have R := Lib.hid HR
  have hlt := HR.lt
  clear HR
  go_enter Try.func83, Try.ntmps83
  go_wp2_with fail
  refine (once_any 30 rd A n c _ hn (by omega) (by omega) (R.out.bl (Bl.alloc_ (Bl.refl w) _))).mono ?_
  rintro e w1 ⟨b, rfl, hr, hg⟩
  have R1 := Lib.hid hr
  have q0 : w1.cell? ⟨w.heap.size, 0, none⟩ = some (.int .i64 N) := hg.cell (by simp [go_sem]) (by simp; omega)
  have G1 := Lib.hid (grown_trans (bl_grown (Bl.alloc_ (Bl.refl w) _) _) hg)
  clear hr hg
  have hb := wrap64_bounds (N - 1)
  cases b with
  | true =>
    go_wp2_with fail
    refine (off_any 0 (wrap64 (N - 1)) rd A n c _ hn (by omega) (by omega) hb.1 hb.2 R1.out).mono ?_
    rintro e w2 ⟨d, hd, rfl, hr, hg⟩
    have HD := Lib.hid hd
    have R2 := Lib.hid hr
    have G2 := Lib.hid hg
    clear hr hg hd
    go_wp2
    go_ret
    exact ⟨d, HD.out, rfl, R2.out, grown_trans G1.out G2.out⟩
  | false =>
    go_wp2_with fail
    all_goals (refine (below_any _ rd A n c _ hn (by omega) R1.out).mono ?_; rintro e w2 ⟨d, hd, rfl, hr, hg⟩; have HD := Lib.hid (show In64 d from by unfold In64; omega); have R2 := Lib.hid hr; have G2 := Lib.hid hg; clear hr hg hd)
    all_goals (go_wp2; go_ret; exact ⟨d, HD.out, rfl, R2.out, grown_trans G1.out G2.out⟩)

end Go.Proofs.Ytgjgcdpjbpccnaa
