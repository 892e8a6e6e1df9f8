/-
  What is proved here: toInt64S makes new memory that can be marked; slices.Reverse turns a list of numbers of its own round; a graph and a tree, a tree and a node that are drawn by a code; a tree and a node that are drawn by a code; plain facts on paths in a tree, by the node ahead of each. No conditions beyond those that each theorem states.
-/
import Derived.Test.YtffjpfanmnkmgaaJG12
import Derived.Test.YtffjpfanmnkmgaaJG13
import Derived.BigRegion
import Derived.Test.YtffjpfanmnkmgaaJG05
import Derived.Test.YtffjpfanmnkmgaaJSTR
import Derived.Test.YtffjpfanmnkmgaaJG10
set_option linter.unusedSimpArgs false
set_option linter.unusedVariables false
namespace Go.Proofs.Ytffjpfanmnkmgaa
open Go.ChangeShapes Go.WideShapes Go.ChangeAt Go.RowKit


end Go.Proofs.Ytffjpfanmnkmgaa

set_option linter.unusedSimpArgs false
set_option linter.unusedVariables false
namespace Go.Proofs.Ytffjpfanmnkmgaa
open Go.RowKit

/-- A list of which the first and the last i have been changed for each other. -/
def revR (V : List Int) (i : Nat) : List Int := (List.range V.length).map fun k => if k < i ∨ V.length ≤ k + i then V.getD (V.length - 1 - k) 0 else V.getD k 0
theorem revR_len (V : List Int) (i : Nat) : (revR V i).length = V.length := by simp [revR]
theorem revR_at {V : List Int} {i k : Nat} (h : k < (revR V i).length) : (revR V i)[k] = if k < i ∨ V.length ≤ k + i then V.getD (V.length - 1 - k) 0 else V.getD k 0 := by
  simp only [revR, List.getElem_map, List.getElem_range]
theorem revR_zero (V : List Int) : revR V 0 = V := by
  refine List.ext_getElem (revR_len V 0) fun k h1 h2 => ?_
  rw [revR_at, if_neg (by omega)]
  simp [h2]
theorem revR_low {V : List Int} {i : Nat} (h : 2 * i + 1 < V.length) (h' : i < (revR V i).length) : (revR V i)[i] = V.getD i 0 := by
  rw [revR_at, if_neg (by omega)]
theorem revR_high {V : List Int} {i : Nat} (h : 2 * i + 1 < V.length) (h' : V.length - 1 - i < (revR V i).length) : (revR V i)[V.length - 1 - i] = V.getD (V.length - 1 - i) 0 := by
  rw [revR_at, if_neg (by omega)]
theorem revR_step {V : List Int} {i : Nat} (h : 2 * i + 1 < V.length) : ((revR V i).set i (V.getD (V.length - 1 - i) 0)).set (V.length - 1 - i) (V.getD i 0) = revR V (i + 1) := by
  refine List.ext_getElem (by simp [revR_len]) fun k h1 h2 => ?_
  rw [revR_len] at h2
  rw [List.getElem_set, List.getElem_set, revR_at, revR_at]
  by_cases e1 : V.length - 1 - i = k
  · rw [if_pos e1, if_pos (by omega)]
    congr 1
    omega
  · rw [if_neg e1]
    by_cases e2 : i = k
    · rw [if_pos e2, if_pos (by omega), e2]
    · rw [if_neg e2]
      by_cases e3 : k < i ∨ V.length ≤ k + i
      · rw [if_pos e3, if_pos (by omega)]
      · rw [if_neg e3, if_neg (by omega)]
theorem revR_end {V : List Int} {i : Nat} (h : V.length ≤ 2 * i + 1) : revR V i = V.reverse := by
  refine List.ext_getElem (by simp [revR_len]) fun k h1 h2 => ?_
  rw [revR_len] at h1
  rw [List.getElem_reverse, revR_at]
  by_cases e3 : k < i ∨ V.length ≤ k + i
  · rw [if_pos e3]
    simp [show V.length - 1 - k < V.length from by omega]
  · rw [if_neg e3]
    have : V.length - 1 - k = k := by omega
    simp [h1, this]

theorem ownN_put {w : World} {B g n c : Nat} {V : List Int} (h : OwnN w B (.slice (some ⟨g, 0, none⟩) n c) V) (hn : n = V.length) (d : Nat) (x : Int) : OwnN (w.setCell ⟨g, d, none⟩ (.int .i64 x)) B (.slice (some ⟨g, 0, none⟩) n c) (V.set d x) := by
  subst hn
  have h1 := (Owns.stored (show Owns 2 1 w B (.slice (some ⟨g, 0, none⟩) V.length c) V.length (csI V) from h) d (.int .i64 x)).1
  have e : (csI V).set d (.int .i64 x) = csI (V.set d x) := by simp [csI, List.map_set]
  rw [e] at h1
  unfold OwnN
  rw [List.length_set]
  exact h1
theorem ownN_cell {w : World} {B g n c : Nat} {V : List Int} (h : OwnN w B (.slice (some ⟨g, 0, none⟩) n c) V) (hn : n = V.length) {d : Nat} (hd : d < V.length) : w.cell? ⟨g, d, none⟩ = some (.int .i64 V[d]) ∧ w.frozen? ⟨g, d, none⟩ = false ∧ g < w.heap.size := by
  subst hn
  have h' : w.ownsRow B 2 1 (.slice (some ⟨g, 0, none⟩) V.length c) V.length (csI V) := h
  refine ⟨?_, World.ownsRow.frozenAt h' d, (Owns.lt h g rfl).2⟩
  rw [World.ownsRow.cellAt h' d (by rw [Nat.mul_one]; exact hd), List.getElem?_eq_getElem (by rw [csI_len]; exact hd), csI_at]

set_option maxRecDepth 100000 in
set_option maxHeartbeats 2000000 in
theorem reverse_any (B g n c : Nat) (V : List Int) (hn : n = V.length) (w : World) (hm : n ≤ 1048576) (hO : OwnN w B (.slice (some ⟨g, 0, none⟩) n c) V) :
    Calls Try.prog 114 #[.slice (some ⟨g, 0, none⟩) n c] w fun e w' => e = .returned (.tuple #[]) ∧ OwnN w' B (.slice (some ⟨g, 0, none⟩) n c) V.reverse ∧ Turn (fun q => q = g) w w' := by
  have O := Lib.hid hO
  have HN := Lib.hid hn
  clear hO hn
  go_enter Try.func114, Try.ntmps114
  go_wp2_with fail
  go_loopw [2, 3] (fun iv jv wr => ∃ i : Nat, 2 * i ≤ n + 1 ∧ iv = .int .i64 (i : Int) ∧ jv = .int .i64 ((n : Int) - 1 - (i : Int)) ∧ OwnN wr B (.slice (some ⟨g, 0, none⟩) n c) (revR V i) ∧ Turn (fun q => q = g) w wr) (fun iv _ _ => n - (intOf iv).toNat)
  case atStart => exact ⟨0, by omega, rfl, by simp, by rw [revR_zero]; exact O.out, Turn.refl _ _⟩
  case round =>
    obtain ⟨i, hi, rfl, rfl, hO, hT⟩ := hrel
    have OO := Lib.hid hO
    have TT := Lib.hid hT
    clear hO hT
    by_cases hlt : 2 * i + 1 < n
    · have hlV : 2 * i + 1 < V.length := by have := HN.out; omega
      have hl1 : i < (revR V i).length := by rw [revR_len]; omega
      have hl2 : V.length - 1 - i < (revR V i).length := by rw [revR_len]; omega
      obtain ⟨a1, a2, a3⟩ := ownN_cell OO.out (by rw [revR_len]; exact HN.out) hl1
      obtain ⟨b1, b2, -⟩ := ownN_cell OO.out (by rw [revR_len]; exact HN.out) hl2
      rw [revR_low hlV] at a1
      rw [revR_high hlV] at b1
      have ST := Lib.hid (revR_step hlV)
      obtain ⟨j, hj⟩ : ∃ j, j = V.length - 1 - i := ⟨_, rfl⟩
      rw [← hj] at b1 b2 ST
      have hjn : (n : Int) - 1 - (i : Int) = (j : Int) := by have := HN.out; omega
      rw [hjn]
      have hj1 : j = n - 1 - i := by have := HN.out; omega
      generalize V.getD i 0 = x at a1 ST
      generalize V.getD j 0 = y at b1 ST
      have i0 : (0 : Int) ≤ (i : Int) := by omega
      have i1 : (i : Int) < (n : Int) := by omega
      have j0 : (0 : Int) ≤ (j : Int) := by omega
      have j1 : (j : Int) < (n : Int) := by omega
      have hij : (i : Int) < (j : Int) := by omega
      have HJ := Lib.hid hj1
      clear hj hjn hj1 hl1 hl2 hlV
      go_wp2
      go_region
      all_goals (go_wp2; go_roundw)
      all_goals (first | (case measure => (simp [intOf]; omega)) | skip)
      all_goals (refine ⟨i + 1, by omega, by go_num, by first | rfl | (have := HJ.out; congr 1; omega), ?_, ?_⟩)
      all_goals (first
        | (rw [← ST.out]; exact OwnN.bl (ownN_put (ownN_put OO.out (by rw [revR_len]; exact HN.out) i y) (by rw [List.length_set, revR_len]; exact HN.out) j x) (by first | exact Bl.refl _ | exact (Bl.refl _).drew_ | exact (Bl.refl _).drewN_ _))
        | exact Turn.bl (Turn.set (Turn.set TT.out (p := ⟨g, i, none⟩) (.inl rfl) _) (p := ⟨g, j, none⟩) (.inl rfl) _) (by first | exact Bl.refl _ | exact (Bl.refl _).drew_ | exact (Bl.refl _).drewN_ _))
    · have hji : (n : Int) - 1 - (i : Int) ≤ (i : Int) := by omega
      have HE := Lib.hid (revR_end (V := V) (i := i) (by have := HN.out; omega))
      go_wp2
      go_end0
      exact ⟨rfl, by rw [← HE.out]; exact OO.out, TT.out⟩

end Go.Proofs.Ytffjpfanmnkmgaa

set_option linter.unusedSimpArgs false
set_option linter.unusedVariables false
namespace Go.Proofs.Ytffjpfanmnkmgaa
open Go.RowKit

theorem TwoT.far {w : World} {g : Nat} {a b : Value} (h : TwoT w g a b) {p : Addr} (hp : g ≠ p.block) (u : Value) : TwoT (w.setCell p u) g a b := World.rowIs.setOther h hp u

/-- A graph and a tree of its own that are drawn by a code. -/
def DrawnGT (w : World) (e : Ending) (w' : World) : Prop :=
  ∃ (N : Int) (A' : Option Addr) (l c' : Nat) (L : List Arc3) (R : Int) (A3 : Option Addr) (k c3 : Nat) (V : List Int), e = .returned (.tuple #[.agg #[.int .i64 N, .slice A' l c'], .agg #[.int .i64 R, .slice A3 k c3]]) ∧ Drawn w.heap.size w' N A' l c' L ∧ k = V.length ∧ k ≤ 1048576 ∧ OwnN w' w.heap.size (.slice A3 k c3) V ∧ Bl w w'

theorem DrawnGT.drew_ {w w' : World} {e : Ending} (h : DrawnGT w e w') : DrawnGT w e w'.drew := by
  obtain ⟨N, A', l, c', L, R, A3, k, c3, V, he, hd, hk, hk2, ho, hb⟩ := h
  exact ⟨N, A', l, c', L, R, A3, k, c3, V, he, hd.bl (Bl.refl _).drew_, hk, hk2, OwnN.bl ho (Bl.refl _).drew_, hb.drew_⟩
/-- The state while a tree is drawn. -/
structure TSt (w : World) (rd : Nat) (A : Option Addr) (n c g0 t0 gb tb b1 : Nat) (N : Int) (A' : Option Addr) (l c' : Nat) (L : List Arc3) (R : Int) (A3 : Option Addr) (k c3 : Nat) (V : List Int) (wx : World) : Prop where
  len : k = V.length
  boxg : Two wx gb (.int .i64 N) (.slice A' l c')
  boxt : TwoT wx tb (.int .i64 R) (.slice A3 k c3)
  resg : Two wx g0 (.int .i64 0) (.slice none 0 0)
  rest : TwoT wx t0 (.int .i64 0) (.slice none 0 0)
  own : OwnN wx (gb + 1) (.slice A3 k c3) V
  olt : ∀ g, (Value.slice A3 k c3).ownBlock = some g → g < tb
  gra : OwnA wx b1 (.slice A' l c') L
  glt : ∀ g, (Value.slice A' l c').ownBlock = some g → g < gb
  rdr : RdAny wx rd A n c
  bl : Bl w wx
  lo0 : w.heap.size ≤ g0
  lo1 : g0 < t0
  lo2 : t0 < rd
  lo3 : rd < b1
  lo4 : b1 ≤ gb
  lo5 : gb < tb
  alt : 0 < n → ∀ g off, A = some ⟨g, off, none⟩ → g < w.heap.size
section
variable {w wr w2 : World} {rd : Nat} {A : Option Addr} {n c g0 t0 gb tb b1 : Nat} {N : Int} {A' : Option Addr} {l c' : Nat} {L : List Arc3} {R : Int} {A3 : Option Addr} {k c3 : Nat} {V : List Int}
theorem TSt.rd_ (h : TSt w rd A n c g0 t0 gb tb b1 N A' l c' L R A3 k c3 V wr) (hr : RdAny w2 rd A n c) (hg : wr.grownBy w2 (some rd)) : TSt w rd A n c g0 t0 gb tb b1 N A' l c' L R A3 k c3 V w2 := by
  have h0 := h.lo0; have h1 := h.lo1; have h2 := h.lo2; have h3 := h.lo3; have h4 := h.lo4; have h5 := h.lo5
  exact ⟨h.len, h.boxg.grown_ hg (fun e => by injection e with e; omega), h.boxt.grown_ hg (fun e => by injection e with e; omega), h.resg.grown_ hg (fun e => by injection e with e; omega), h.rest.grown_ hg (fun e => by injection e with e; omega), Owns.grown_ h.own hg (fun g hg' e => by
      injection e with e
      have := (Owns.lt h.own g hg').1
      omega), h.olt, h.gra.grown_ hg (fun g e => by injection e with e; omega), h.glt, hr, h.bl.grown_ hg (fun g e => by injection e with e; omega), h0, h1, h2, h3, h4, h5, h.alt⟩
theorem TSt.bl_ (h : TSt w rd A n c g0 t0 gb tb b1 N A' l c' L R A3 k c3 V wr) (hb : Bl wr w2) : TSt w rd A n c g0 t0 gb tb b1 N A' l c' L R A3 k c3 V w2 :=
  ⟨h.len, h.boxg.bl hb, h.boxt.bl hb, h.resg.bl hb, h.rest.bl hb, h.own.bl hb, h.olt, h.gra.bl hb, h.glt, h.rdr.bl hb, h.bl.trans_ hb, h.lo0, h.lo1, h.lo2, h.lo3, h.lo4, h.lo5, h.alt⟩
theorem TSt.put {g3 : Nat} (h : TSt w rd A n c g0 t0 gb tb b1 N A' l c' L R (some ⟨g3, 0, none⟩) k c3 V wr) (d : Nat) (x : Int) : TSt w rd A n c g0 t0 gb tb b1 N A' l c' L R (some ⟨g3, 0, none⟩) k c3 (V.set d x) (wr.setCell ⟨g3, d, none⟩ (.int .i64 x)) := by
  have h0 := h.lo0; have h1 := h.lo1; have h2 := h.lo2; have h3 := h.lo3; have h4 := h.lo4; have h5 := h.lo5
  have h6 := (Owns.lt h.own g3 rfl).1
  have h7 := h.olt g3 rfl
  exact ⟨by rw [List.length_set]; exact h.len, h.boxg.far (by show gb ≠ g3; omega) _, h.boxt.far (by show tb ≠ g3; omega) _, h.resg.far (by show g0 ≠ g3; omega) _, h.rest.far (by show t0 ≠ g3; omega) _, ownN_put h.own h.len d x, h.olt, Owns.setOther h.gra (fun g hg e => by
      have h8 := h.glt g hg
      have h9 : g = g3 := e
      omega) _, h.glt, h.rdr.set_ (by show g3 ≠ rd; omega) (fun h0 g off e => by have := h.alt h0 g off e; show g ≠ g3; omega) _, h.bl.set_ (by show w.heap.size ≤ g3; omega) _, h0, h1, h2, h3, h4, h5, h.alt⟩
theorem TSt.fin (h : TSt w rd A n c g0 t0 gb tb b1 N A' l c' L R A3 k c3 V wr) (hN : In64 N) (hl : l = L.length) (hl2 : l ≤ 200) (hk : k ≤ 1048576) (x y z u : Value) :
    DrawnGT w (.returned (.tuple #[.agg #[.int .i64 N, .slice A' l c'], .agg #[.int .i64 R, .slice A3 k c3]])) ((((wr.setCell ⟨g0, 0, none⟩ x).setCell ⟨g0, 1, none⟩ y).setCell ⟨t0, 0, none⟩ z).setCell ⟨t0, 1, none⟩ u) := by
  have h0 := h.lo0; have h1 := h.lo1; have h2 := h.lo2; have h3 := h.lo3; have h4 := h.lo4; have h5 := h.lo5
  have hne : ∀ p : Addr, (p.block = g0 ∨ p.block = t0) → ∀ g, (Value.slice A3 k c3).ownBlock = some g → g ≠ p.block := fun p hp g hg e => by have := (Owns.lt h.own g hg).1; omega
  exact ⟨N, A', l, c', L, R, A3, k, c3, V, rfl, ⟨hl, hl2, hN, ((((h.gra.set_ (by show g0 < b1; omega) _).set_ (by show g0 < b1; omega) _).set_ (by show t0 < b1; omega) _).set_ (by show t0 < b1; omega) _).low (by omega)⟩, h.len, hk,
    OwnN.low (Owns.setOther (Owns.setOther (Owns.setOther (Owns.setOther h.own (p := ⟨g0, 0, none⟩) (hne _ (.inl rfl)) _) (p := ⟨g0, 1, none⟩) (hne _ (.inl rfl)) _) (p := ⟨t0, 0, none⟩) (hne _ (.inr rfl)) _) (p := ⟨t0, 1, none⟩) (hne _ (.inr rfl)) _) (by omega), (((h.bl.set_ h0 _).set_ h0 _).set_ (by show w.heap.size ≤ t0; omega) _).set_ (by show w.heap.size ≤ t0; omega) _⟩
theorem TSt.some_ (h : TSt w rd A n c g0 t0 gb tb b1 N A' l c' L R A3 k c3 V wr) (hk : 0 < k) : ∃ g3, A3 = some ⟨g3, 0, none⟩ ∧ gb < g3 := by
  have hl := h.len
  have hO := h.own
  subst hl
  obtain ⟨g, cc, e, hB, -, -⟩ := OwnN.toRow hO (by omega)
  injection e with e1 e2 e3
  exact ⟨g, e1, hB⟩
theorem TSt.at_ {g3 : Nat} (h : TSt w rd A n c g0 t0 gb tb b1 N A' l c' L R (some ⟨g3, 0, none⟩) k c3 V wr) {d : Nat} (hd : d < k) : (∃ x : Int, wr.cell? ⟨g3, d, none⟩ = some (.int .i64 x)) ∧ wr.frozen? ⟨g3, d, none⟩ = false ∧ g3 < wr.heap.size := by
  have hl := h.len
  obtain ⟨h1, h2, h3⟩ := ownN_cell h.own hl (d := d) (by omega)
  exact ⟨⟨_, h1⟩, h2, h3⟩
end

theorem treeOfU_small (N : Int) (L : List Arc3) (s : Int) : (treeOfU N L s).length ≤ 1048576 := by
  unfold treeOfU
  split
  · rename_i h
    have := (okB_elim (has1_of h).1).2.1
    rw [treeU_len]
    omega
  · simp
set_option maxRecDepth 100000 in
set_option maxHeartbeats 4000000 in
theorem drawTreeOk_any (A : Option Addr) (n c : Nat) (w : World) (hn : n ≤ 1099511627776) (H : BytesAt w A n) :
    Calls Try.prog 28 #[.slice A n c] w (DrawnGT w) := by
  have K := Lib.hid H
  clear H
  go_enter Try.func28, Try.ntmps28
  go_wp2_with fail
  refine (open_any A n c _ (K.out.bl (by repeat' (first | exact Bl.refl _ | with_reducible assumption | with_reducible refine Bl.drew_ ?_ | with_reducible refine Bl.drewN_ ?_ _ | with_reducible refine Bl.alloc_ ?_ _ | with_reducible refine Bl.trans_ ?_ (by assumption) | with_reducible refine Bl.trans_ ?_ (And.left (by assumption)))))).mono ?_
  rintro e w1 ⟨rfl, hr, hb, hlt⟩
  have R1 := Lib.hid (show RdAny w1 (w.heap.size + 1 + 1) A n c from by rw [World.size_alloc, World.size_alloc] at hr; exact hr)
  have B1 := Lib.hid hb
  have s1 := hb.size
  simp only [World.size_alloc] at s1 hlt
  have HK1 := Lib.hid (K.out.bl ((((Bl.refl w).alloc_ _).alloc_ _).trans_ hb))
  clear hr hb
  go_wp2_with fail
  refine (drawDistFrom_any A n c _ hn HK1.out).mono ?_
  rintro e w2 ⟨N, A', l, c', L, s, rfl, hd, hs, hb2⟩
  obtain ⟨ha, hlc⟩ := hd.arcs
  have HL := Lib.hid hd.1
  have hl200 := hd.2.1
  have HN := Lib.hid hd.2.2.1
  have s2 := hb2.size
  have B2 := Lib.hid (B1.out.trans_ hb2)
  have O2 := Lib.hid hd.2.2.2
  have R2 := Lib.hid (R1.out.bl hb2)
  obtain ⟨X, hX⟩ : ∃ X, X = w2.alloc (.cells #[.int .i64 N, .slice A' l c'] 38) := ⟨_, rfl⟩
  have BX := Lib.hid (show Bl w2 X from by rw [hX]; exact Bl.alloc_ (Bl.refl w2) _)
  have TX := Lib.hid (show Two X w2.heap.size (.int .i64 N) (.slice A' l c') from by rw [hX]; exact Two.new _ _ _)
  have SX := Lib.hid (show X.heap.size = w2.heap.size + 1 from by rw [hX, World.size_alloc])
  have HA := Lib.hid (show ArcsAt X X.heap.size A' L from ha.bl BX.out)
  clear hd ha hb2
  go_wp2_with fail
  rw [← hX]
  clear hX
  refine (specTreeOf_any N s A' l c' L HL.out hlc _ (by omega) HA.out).mono ?_
  rintro e w3 ⟨v3, rfl, hv3, hb3⟩
  have O3 := Lib.hid hv3
  obtain ⟨A3, c3, rfl, -, -, -, -⟩ := OwnN.shape hv3
  have hk20 : (treeOfU N L s).length ≤ 1048576 := treeOfU_small N L s
  obtain ⟨V0, hV0⟩ : ∃ V0, V0 = treeOfU N L s := ⟨_, rfl⟩
  rw [← hV0] at O3 hk20 ⊢
  obtain ⟨k, hk⟩ : ∃ k, k = V0.length := ⟨_, rfl⟩
  rw [← hk] at O3 hk20 ⊢
  obtain ⟨gb, hgb⟩ : ∃ gb, gb = w2.heap.size := ⟨_, rfl⟩
  obtain ⟨b1, hb1⟩ : ∃ b1, b1 = w1.heap.size := ⟨_, rfl⟩
  obtain ⟨R, hR⟩ : ∃ R, R = treeR N L s := ⟨_, rfl⟩
  rw [← hR]
  obtain ⟨Y, hY⟩ : ∃ Y, Y = w3.alloc (.cells #[.int .i64 R, .slice A3 k c3] 27) := ⟨_, rfl⟩
  have s3 := hb3.size
  rw [SX.out] at s3
  obtain ⟨tb, htb⟩ : ∃ tb, tb = w3.heap.size := ⟨_, rfl⟩
  have BY := Lib.hid (show Bl w3 Y from by rw [hY]; exact Bl.alloc_ (Bl.refl w3) _)
  have S0 := Lib.hid (show TSt w (w.heap.size + 1 + 1) A n c w.heap.size (w.heap.size + 1) gb tb b1 N A' l c' L R A3 k c3 V0 Y from by
    subst hgb
    subst hb1
    subst htb
    have b23 : Bl w2 Y := (BX.out.trans_ hb3).trans_ BY.out
    have b0 : Bl (w.alloc (.cells #[.int .i64 0, .slice none 0 0] 38)) Y := ((Bl.alloc_ (Bl.refl _) _).trans_ B2.out).trans_ b23
    have t0 : TwoT Y (w.heap.size + 1) (.int .i64 0) (.slice none 0 0) := by
      have h := TwoT.new (w.alloc (.cells #[.int .i64 0, .slice none 0 0] 38)) (.int .i64 0) (.slice none 0 0)
      rw [World.size_alloc] at h
      exact (h.bl B2.out).bl b23
    refine ⟨hk, (TX.out.bl hb3).bl BY.out, by rw [hY]; exact TwoT.new _ _ _, (Two.new w _ _).bl b0, t0, ?_, fun g hg => (Owns.lt O3.out g hg).2, O2.out.bl b23, fun g hg => (Owns.lt O2.out g hg).2, R2.out.bl b23, (Bl.alloc_ (Bl.refl w) _).trans_ b0, Nat.le_refl _, by omega, by omega, by omega, by omega, by omega, K.out.lt'⟩
    have h := O3.out.bl BY.out
    rw [SX.out] at h
    exact h)
  clear hv3 hV0 hk hb3 hR
  go_wp2_with fail
  rw [← hY, ← hgb, ← htb]
  clear hgb hb1 htb hY s1 s2 s3 hlt
  have fin := fun (V9 : List Int) (w9 : World) (A9 : Option Addr) (h : TSt w (w.heap.size + 1 + 1) A n c w.heap.size (w.heap.size + 1) gb tb b1 N A' l c' L R A9 k c3 V9 w9) => h.fin HN.out HL.out hl200 hk20
  have FIN := Lib.hid fin
  clear fin
  refine (once_any 3 (w.heap.size + 1 + 1) A n c _ hn (by omega) (by omega) S0.out.rdr).mono ?_
  rintro e w4 ⟨b, rfl, hr, hg⟩
  have U1 := Lib.hid (S0.out.rd_ hr hg)
  have l1 := S0.out.lo1
  have l2 := S0.out.lo2
  have l3 := S0.out.lo3
  have l4 := S0.out.lo4
  have l5 := S0.out.lo5
  have n1 : gb ≠ w.heap.size := by omega
  have n2 : gb ≠ w.heap.size + 1 := by omega
  have n3 : tb ≠ w.heap.size := by omega
  have n4 : tb ≠ w.heap.size + 1 := by omega
  have n5 : w.heap.size ≠ gb := by omega
  have n6 : w.heap.size + 1 ≠ gb := by omega
  have n7 : w.heap.size ≠ tb := by omega
  have n8 : w.heap.size + 1 ≠ tb := by omega
  have NE := Lib.hid (show (gb ≠ w.heap.size ∧ gb ≠ w.heap.size + 1) ∧ (tb ≠ w.heap.size ∧ tb ≠ w.heap.size + 1) from ⟨⟨n1, n2⟩, n3, n4⟩)
  clear hr hg S0 l1 l2 l3 l4 l5
  cases b with
  | false =>
    obtain ⟨y0, y1, fy0, fy1⟩ := U1.out.boxg.facts
    obtain ⟨x0, x1, fx0, fx1⟩ := U1.out.boxt.facts
    obtain ⟨r0, r1, fr0, fr1⟩ := U1.out.resg.facts
    obtain ⟨q0, q1, fq0, fq1⟩ := U1.out.rest.facts
    go_wp2
    go_region
    go_wp2
    refine bodyPost_ret (v := .tuple #[.agg #[.int .i64 N, .slice A' l c'], .agg #[.int .i64 R, .slice A3 k c3]]) (by simp [results, Try.results28, go_sem, r0, r1, fr0, fr1, q0, q1, fq0, fq1]) rfl ?_
    exact (FIN.out _ _ _ U1.out _ _ _ _).drew_
  | true =>
    by_cases hk0 : 0 < k
    · have bk : decide ((0 : Int) < (k : Int)) = true := by simpa using hk0
      obtain ⟨g3, rfl, hg3⟩ := U1.out.some_ hk0
      have N3 := Lib.hid (show g3 ≠ gb ∧ g3 ≠ tb ∧ g3 ≠ w.heap.size ∧ g3 ≠ w.heap.size + 1 from by
        have l1 := U1.out.lo1
        have l2 := U1.out.lo2
        have l3 := U1.out.lo3
        have l4 := U1.out.lo4
        have l6 := U1.out.olt g3 rfl
        exact ⟨by omega, by omega, by omega, by omega⟩)
      obtain ⟨x0, x1, fx0, fx1⟩ := U1.out.boxt.facts
      obtain ⟨n31, n32, n33, n34⟩ := N3.out
      go_wp2_with fail
      refine wp_region_held_drew (S := fun wx => wx.cell? ⟨tb, 0, none⟩ = some (.int .i64 R) ∧ wx.cell? ⟨tb, 1, none⟩ = some (.slice (some ⟨g3, 0, none⟩) k c3)) (by kernel_rfl) ?_ (fun hHeld => ?_)
      · (first | (have z := U3.out.boxt.facts; exact ⟨z.1, z.2.1⟩) | (have z := U2.out.boxt.facts; exact ⟨z.1, z.2.1⟩) | (have z := U1.out.boxt.facts; exact ⟨z.1, z.2.1⟩) | (refine ⟨?_, ?_⟩ <;> (simp [go_sem, n31, n32, Ne.symm n31, Ne.symm n32, *]; done)))
      refine wpAnyH_take (i := 0) (v := ?_) rfl (by kernel_rfl) (by kernel_rfl) (by kernel_rfl) (fun _ _ _ h => h) (Or.inl ⟨by kernel_rfl, ?_⟩) (by assumption) ?_
      rotate_left
      · (intro wx hSw; (try dsimp only at hSw); go_simp; try (with_reducible rfl))
      try simp only [Act.put, List.getElem_toArray, List.getElem_cons_succ, List.getElem_cons_zero, List.setIfInBounds_toArray, List.set_cons_zero, List.set_cons_succ]
      refine wpAnyH_take (i := 1) (v := ?_) rfl (by kernel_rfl) (by kernel_rfl) (by kernel_rfl) (fun _ _ _ h => h) (Or.inl ⟨by kernel_rfl, ?_⟩) (by assumption) ?_
      rotate_left
      · (intro wx hSw; (try dsimp only at hSw); go_simp; try (with_reducible rfl))
      try simp only [Act.put, List.getElem_toArray, List.getElem_cons_succ, List.getElem_cons_zero, List.setIfInBounds_toArray, List.set_cons_zero, List.set_cons_succ]
      refine wpAnyH_take (i := 2) (v := ?_) rfl (by kernel_rfl) (by kernel_rfl) (by kernel_rfl) (fun _ _ _ h => h) (Or.inl ⟨by kernel_rfl, ?_⟩) (by assumption) ?_
      rotate_left
      · (intro wx hSw; (try dsimp only at hSw); go_simp; try (with_reducible rfl))
      try simp only [Act.put, List.getElem_toArray, List.getElem_cons_succ, List.getElem_cons_zero, List.setIfInBounds_toArray, List.set_cons_zero, List.set_cons_succ]
      refine wpAnyH_take (i := 3) (v := ?_) rfl (by kernel_rfl) (by kernel_rfl) (by kernel_rfl) (fun _ _ _ h => h) (Or.inl ⟨by kernel_rfl, ?_⟩) (by assumption) ?_
      rotate_left
      · (intro wx hSw; (try dsimp only at hSw); go_simp; try (with_reducible rfl))
      try simp only [Act.put, List.getElem_toArray, List.getElem_cons_succ, List.getElem_cons_zero, List.setIfInBounds_toArray, List.set_cons_zero, List.set_cons_succ]
      refine wpAnyH_take (i := 4) (v := ?_) rfl (by kernel_rfl) (by kernel_rfl) (by kernel_rfl) (fun _ _ _ h => h) (Or.inl ⟨by kernel_rfl, ?_⟩) (by assumption) ?_
      rotate_left
      · (intro wx hSw; (try dsimp only at hSw); go_simp; try (with_reducible rfl))
      try simp only [Act.put, List.getElem_toArray, List.getElem_cons_succ, List.getElem_cons_zero, List.setIfInBounds_toArray, List.set_cons_zero, List.set_cons_succ]
      refine wpAnyH_take (i := 7) (v := ?_) rfl (by kernel_rfl) (by kernel_rfl) (by kernel_rfl) (fun _ _ _ h => h) (Or.inl ⟨by kernel_rfl, ?_⟩) (by assumption) ?_
      rotate_left
      · (intro wx hSw; (try dsimp only at hSw); go_simp; try (with_reducible rfl))
      try simp only [Act.put, List.getElem_toArray, List.getElem_cons_succ, List.getElem_cons_zero, List.setIfInBounds_toArray, List.set_cons_zero, List.set_cons_succ]
      refine wpAnyH_ready (rs := [5]) (by kernel_rfl) (by simp) ?_
      refine AllReadyH.cons rfl (fun K hK => ?_) AllReadyH.nil
      go_simp
      refine hK.out _ _ ?_ (fun hHeld => ?_)
      · (first | (have z := U3.out.boxt.facts; exact ⟨z.1, z.2.1⟩) | (have z := U2.out.boxt.facts; exact ⟨z.1, z.2.1⟩) | (have z := U1.out.boxt.facts; exact ⟨z.1, z.2.1⟩) | (refine ⟨?_, ?_⟩ <;> (simp [go_sem, n31, n32, Ne.symm n31, Ne.symm n32, *]; done)))
      clear hK K
      try simp only [Act.put, List.getElem_toArray, List.getElem_cons_succ, List.getElem_cons_zero, List.setIfInBounds_toArray, List.set_cons_zero, List.set_cons_succ]
      refine wpAnyH_ready (rs := [6]) (by kernel_rfl) (by simp) ?_
      refine AllReadyH.cons rfl (fun K hK => ?_) AllReadyH.nil
      go_simp
      (go_at_call 81; refine (below_any k (w.heap.size + 1 + 1) A n c _ hn (by omega) (U1.out.rdr.bl (by repeat' (first | exact Bl.refl _ | with_reducible assumption | with_reducible refine Bl.drew_ ?_ | with_reducible refine Bl.drewN_ ?_ _ | with_reducible refine Bl.alloc_ ?_ _ | with_reducible refine Bl.trans_ ?_ (by assumption) | with_reducible refine Bl.trans_ ?_ (And.left (by assumption)))))).mono ?_; rintro e w5 ⟨d, ⟨hd0, hd1⟩, rfl, hr, hg⟩; have U2 := Lib.hid ((U1.out.bl_ (by repeat' (first | exact Bl.refl _ | with_reducible assumption | with_reducible refine Bl.drew_ ?_ | with_reducible refine Bl.drewN_ ?_ _ | with_reducible refine Bl.alloc_ ?_ _ | with_reducible refine Bl.trans_ ?_ (by assumption) | with_reducible refine Bl.trans_ ?_ (And.left (by assumption))))).rd_ hr hg); obtain ⟨dn, rfl⟩ : ∃ dn : Nat, d = dn := ⟨d.toNat, by omega⟩; have hdn : dn < k := (by omega); clear hr hg hd1)
      try (go_wp2_with fail)
      refine hK.out _ _ ?_ (fun hHeld => ?_)
      · (first | (have z := U3.out.boxt.facts; exact ⟨z.1, z.2.1⟩) | (have z := U2.out.boxt.facts; exact ⟨z.1, z.2.1⟩) | (have z := U1.out.boxt.facts; exact ⟨z.1, z.2.1⟩) | (refine ⟨?_, ?_⟩ <;> (simp [go_sem, n31, n32, Ne.symm n31, Ne.symm n32, *]; done)))
      clear hK K
      try simp only [Act.put, List.getElem_toArray, List.getElem_cons_succ, List.getElem_cons_zero, List.setIfInBounds_toArray, List.set_cons_zero, List.set_cons_succ]
      refine wpAnyH_ready (rs := [8]) (by kernel_rfl) (by simp) ?_
      refine AllReadyH.cons rfl (fun K hK => ?_) AllReadyH.nil
      go_simp
      (go_at_call 80; refine (offL_any (-1) 6 (w.heap.size + 1 + 1) A n c _ hn (by omega) (by omega) (by omega) (by omega) (U2.out.rdr.bl (by repeat' (first | exact Bl.refl _ | with_reducible assumption | with_reducible refine Bl.drew_ ?_ | with_reducible refine Bl.drewN_ ?_ _ | with_reducible refine Bl.alloc_ ?_ _ | with_reducible refine Bl.trans_ ?_ (by assumption) | with_reducible refine Bl.trans_ ?_ (And.left (by assumption)))))).mono ?_; rintro e w6 ⟨x, hx, rfl, hr, hg⟩; have U3 := Lib.hid ((U2.out.bl_ (by repeat' (first | exact Bl.refl _ | with_reducible assumption | with_reducible refine Bl.drew_ ?_ | with_reducible refine Bl.drewN_ ?_ _ | with_reducible refine Bl.alloc_ ?_ _ | with_reducible refine Bl.trans_ ?_ (by assumption) | with_reducible refine Bl.trans_ ?_ (And.left (by assumption))))).rd_ hr hg); clear hr hg hx; obtain ⟨⟨x', d1⟩, d2, d3⟩ := U3.out.at_ hdn; have d0 : (0 : Int) ≤ (dn : Int) := (by omega); have dk : (dn : Int) < (k : Int) := (by omega))
      try (go_wp2_with fail)
      refine hK.out _ _ ?_ (fun hHeld => ?_)
      · (first | (have z := U3.out.boxt.facts; exact ⟨z.1, z.2.1⟩) | (have z := U2.out.boxt.facts; exact ⟨z.1, z.2.1⟩) | (have z := U1.out.boxt.facts; exact ⟨z.1, z.2.1⟩) | (refine ⟨?_, ?_⟩ <;> (simp [go_sem, n31, n32, Ne.symm n31, Ne.symm n32, *]; done)))
      clear hK K
      try simp only [Act.put, List.getElem_toArray, List.getElem_cons_succ, List.getElem_cons_zero, List.setIfInBounds_toArray, List.set_cons_zero, List.set_cons_succ]
      refine wpAnyH_take (i := 9) (v := ?_) rfl (by kernel_rfl) (by kernel_rfl) (by kernel_rfl) (fun _ _ _ h => h) (Or.inl ⟨by kernel_rfl, ?_⟩) (by assumption) ?_
      rotate_left
      · (intro wx hSw; (try dsimp only at hSw); go_simp; try (with_reducible rfl))
      try simp only [Act.put, List.getElem_toArray, List.getElem_cons_succ, List.getElem_cons_zero, List.setIfInBounds_toArray, List.set_cons_zero, List.set_cons_succ]
      refine wpAnyH_ready (rs := [10]) (by kernel_rfl) (by simp) ?_
      refine AllReadyH.cons rfl (fun K hK => ?_) AllReadyH.nil
      go_simp
      refine hK.out _ _ ?_ (fun hHeld => ?_)
      · (first | (have z := U3.out.boxt.facts; exact ⟨z.1, z.2.1⟩) | (have z := U2.out.boxt.facts; exact ⟨z.1, z.2.1⟩) | (have z := U1.out.boxt.facts; exact ⟨z.1, z.2.1⟩) | (refine ⟨?_, ?_⟩ <;> (simp [go_sem, n31, n32, Ne.symm n31, Ne.symm n32, *]; done)))
      clear hK K
      try simp only [Act.put, List.getElem_toArray, List.getElem_cons_succ, List.getElem_cons_zero, List.setIfInBounds_toArray, List.set_cons_zero, List.set_cons_succ]
      refine wpAnyH_done (by kernel_rfl) ?_ _
      have U4 := Lib.hid (U3.out.put dn x)
      obtain ⟨W4, hW4⟩ : ∃ W4, W4 = w6.setCell ⟨g3, dn, none⟩ (.int .i64 x) := ⟨_, rfl⟩
      rw [← hW4] at U4 ⊢
      clear hW4 d1 d2 d3 d0 dk x0 x1 fx0 fx1 hHeld U3 U2
      obtain ⟨y0, y1, fy0, fy1⟩ := U4.out.boxg.facts
      obtain ⟨x0, x1, fx0, fx1⟩ := U4.out.boxt.facts
      obtain ⟨r0, r1, fr0, fr1⟩ := U4.out.resg.facts
      obtain ⟨q0, q1, fq0, fq1⟩ := U4.out.rest.facts
      go_wp2
      go_region
      go_wp2
      refine bodyPost_ret (v := .tuple #[.agg #[.int .i64 N, .slice A' l c'], .agg #[.int .i64 R, .slice (some ⟨g3, 0, none⟩) k c3]]) (by simp [results, Try.results28, go_sem, r0, r1, fr0, fr1, q0, q1, fq0, fq1]) rfl ?_
      exact (FIN.out _ _ _ U4.out _ _ _ _).drew_
    · have bk : decide ((0 : Int) < (k : Int)) = false := by simpa using hk0
      obtain ⟨y0, y1, fy0, fy1⟩ := U1.out.boxg.facts
      obtain ⟨x0, x1, fx0, fx1⟩ := U1.out.boxt.facts
      obtain ⟨r0, r1, fr0, fr1⟩ := U1.out.resg.facts
      obtain ⟨q0, q1, fq0, fq1⟩ := U1.out.rest.facts
      go_wp2
      go_region
      go_wp2
      refine bodyPost_ret (v := .tuple #[.agg #[.int .i64 N, .slice A' l c'], .agg #[.int .i64 R, .slice A3 k c3]]) (by simp [results, Try.results28, go_sem, r0, r1, fr0, fr1, q0, q1, fq0, fq1]) rfl ?_
      exact (FIN.out _ _ _ U1.out _ _ _ _).drew_

end Go.Proofs.Ytffjpfanmnkmgaa

set_option linter.unusedSimpArgs false
set_option linter.unusedVariables false
namespace Go.Proofs.Ytffjpfanmnkmgaa
open Go.RowKit

/-- A tree of its own and a node that are drawn by a code. -/
def DrawnTv (w : World) (e : Ending) (w' : World) : Prop :=
  ∃ (R : Int) (A3 : Option Addr) (k c3 : Nat) (V : List Int) (v : Int), e = .returned (.tuple #[.agg #[.int .i64 R, .slice A3 k c3], .int .i64 v]) ∧ k = V.length ∧ k ≤ 1048576 ∧ OwnN w' w.heap.size (.slice A3 k c3) V ∧ In64 v ∧ Bl w w'
theorem DrawnTv.drew_ {w w' : World} {e : Ending} (h : DrawnTv w e w') : DrawnTv w e w'.drew := by
  obtain ⟨R, A3, k, c3, V, v, he, hk, hk2, ho, hv, hb⟩ := h
  exact ⟨R, A3, k, c3, V, v, he, hk, hk2, OwnN.bl ho (Bl.refl _).drew_, hv, hb.drew_⟩

structure PSt (w : World) (rd : Nat) (A : Option Addr) (n c gb tb b1 : Nat) (N : Int) (vg : Value) (R : Int) (A3 : Option Addr) (k c3 : Nat) (V : List Int) (ra rb : Value) (wx : World) : Prop where
  boxg : Two wx gb (.int .i64 N) vg
  boxt : TwoT wx tb (.int .i64 R) (.slice A3 k c3)
  rest : TwoT wx w.heap.size ra rb
  own : OwnN wx b1 (.slice A3 k c3) V
  rdr : RdAny wx rd A n c
  bl : Bl w wx
  lo1 : w.heap.size < rd
  lo2 : rd < b1
  lo3 : b1 ≤ gb
  lo4 : b1 ≤ tb
  alt : 0 < n → ∀ g off, A = some ⟨g, off, none⟩ → g < w.heap.size
section
variable {w wr w2 : World} {rd : Nat} {A : Option Addr} {n c gb tb b1 : Nat} {N : Int} {vg : Value} {R : Int} {A3 : Option Addr} {k c3 : Nat} {V : List Int} {ra rb : Value}
theorem PSt.rd_ (h : PSt w rd A n c gb tb b1 N vg R A3 k c3 V ra rb wr) (hr : RdAny w2 rd A n c) (hg : wr.grownBy w2 (some rd)) : PSt w rd A n c gb tb b1 N vg R A3 k c3 V ra rb w2 := by
  have h1 := h.lo1; have h2 := h.lo2; have h3 := h.lo3; have h4 := h.lo4
  exact ⟨h.boxg.grown_ hg (fun e => by injection e with e; omega), h.boxt.grown_ hg (fun e => by injection e with e; omega), h.rest.grown_ hg (fun e => by injection e with e; omega), Owns.grown_ h.own hg (fun g hg' e => by
      injection e with e
      have := (Owns.lt h.own g hg').1
      omega), hr, h.bl.grown_ hg (fun g e => by injection e with e; omega), h1, h2, h3, h4, h.alt⟩
theorem PSt.bl_ (h : PSt w rd A n c gb tb b1 N vg R A3 k c3 V ra rb wr) (hb : Bl wr w2) : PSt w rd A n c gb tb b1 N vg R A3 k c3 V ra rb w2 :=
  ⟨h.boxg.bl hb, h.boxt.bl hb, h.rest.bl hb, h.own.bl hb, h.rdr.bl hb, h.bl.trans_ hb, h.lo1, h.lo2, h.lo3, h.lo4, h.alt⟩
theorem TwoT.set1' {w : World} {g : Nat} {a b : Value} (h : TwoT w g a b) (u : Value) : TwoT (w.setCell ⟨g, 1, none⟩ u) g a u :=
  (World.rowIs.set h 1 u).congr fun i hi => by
    have : i = 0 ∨ i = 1 := by omega
    rcases this with rfl | rfl <;> simp
theorem TwoT.set0' {w : World} {g : Nat} {a b : Value} (h : TwoT w g a b) (u : Value) : TwoT (w.setCell ⟨g, 0, none⟩ u) g u b :=
  (World.rowIs.set h 0 u).congr fun i hi => by
    have : i = 0 ∨ i = 1 := by omega
    rcases this with rfl | rfl <;> simp
theorem PSt.put (h : PSt w rd A n c gb tb b1 N vg R A3 k c3 V ra rb wr) (x y : Value) : PSt w rd A n c gb tb b1 N vg R A3 k c3 V x y ((wr.setCell ⟨w.heap.size, 0, none⟩ x).setCell ⟨w.heap.size, 1, none⟩ y) := by
  have h1 := h.lo1; have h2 := h.lo2; have h3 := h.lo3; have h4 := h.lo4
  have hne : ∀ g, (Value.slice A3 k c3).ownBlock = some g → g ≠ w.heap.size := fun g hg e => by have := (Owns.lt h.own g hg).1; omega
  exact ⟨(h.boxg.far (by show gb ≠ w.heap.size; omega) _).far (by show gb ≠ w.heap.size; omega) _, (h.boxt.far (by show tb ≠ w.heap.size; omega) _).far (by show tb ≠ w.heap.size; omega) _, (h.rest.set0' x).set1' y, Owns.setOther (Owns.setOther h.own (p := ⟨w.heap.size, 0, none⟩) hne _) (p := ⟨w.heap.size, 1, none⟩) hne _,
    (h.rdr.set_ (by show w.heap.size ≠ rd; omega) (fun h0 g off e => by have := h.alt h0 g off e; show g ≠ w.heap.size; omega) _).set_ (by show w.heap.size ≠ rd; omega) (fun h0 g off e => by have := h.alt h0 g off e; show g ≠ w.heap.size; omega) _, (h.bl.set_ (Nat.le_refl _) _).set_ (Nat.le_refl _) _, h1, h2, h3, h4, h.alt⟩
theorem PSt.fin (h : PSt w rd A n c gb tb b1 N vg R A3 k c3 V ra rb wr) (hk : k = V.length) (hk2 : k ≤ 1048576) {v : Int} (hv : In64 v) : DrawnTv w (.returned (.tuple #[.agg #[.int .i64 R, .slice A3 k c3], .int .i64 v])) wr := by
  have h1 := h.lo1; have h2 := h.lo2
  exact ⟨R, A3, k, c3, V, v, rfl, hk, hk2, h.own.low (by omega), hv, h.bl⟩
end

set_option maxRecDepth 100000 in
set_option maxHeartbeats 4000000 in
theorem drawPathIn_any (A : Option Addr) (n c : Nat) (w : World) (hn : n ≤ 1099511627776) (H : BytesAt w A n) :
    Calls Try.prog 35 #[.slice A n c] w (DrawnTv w) := by
  have K := Lib.hid H
  clear H
  go_enter Try.func35, Try.ntmps35
  go_wp2_with fail
  refine (open_any A n c _ (K.out.bl (by repeat' (first | exact Bl.refl _ | with_reducible assumption | with_reducible refine Bl.drew_ ?_ | with_reducible refine Bl.drewN_ ?_ _ | with_reducible refine Bl.alloc_ ?_ _ | with_reducible refine Bl.trans_ ?_ (by assumption) | with_reducible refine Bl.trans_ ?_ (And.left (by assumption)))))).mono ?_
  rintro e w1 ⟨rfl, hr, hb, hlt⟩
  have R1 := Lib.hid (show RdAny w1 (w.heap.size + 1) A n c from by rw [World.size_alloc] at hr; exact hr)
  have B1 := Lib.hid hb
  have s1 := hb.size
  simp only [World.size_alloc] at s1 hlt
  have HK1 := Lib.hid (K.out.bl (((Bl.refl w).alloc_ _).trans_ hb))
  clear hr hb
  go_wp2_with fail
  refine (drawTreeOk_any A n c _ hn HK1.out).mono ?_
  rintro e w2 ⟨N, A', l, c', L, R, A3, k, c3, V, rfl, hd, hk, hk2, ho, hb2⟩
  have s2 := hb2.size
  have hN := hd.2.2.1
  obtain ⟨X, hX⟩ : ∃ X, X = (w2.alloc (.cells #[.int .i64 N, .slice A' l c'] 38)).alloc (.cells #[.int .i64 R, .slice A3 k c3] 27) := ⟨_, rfl⟩
  have HKK := Lib.hid hk
  obtain ⟨gb, hgb⟩ : ∃ gb, gb = w2.heap.size := ⟨_, rfl⟩
  obtain ⟨tb, htb⟩ : ∃ tb, tb = gb + 1 := ⟨_, rfl⟩
  obtain ⟨b1, hb1⟩ : ∃ b1, b1 = w1.heap.size := ⟨_, rfl⟩
  have S0 := Lib.hid (show PSt w (w.heap.size + 1) A n c gb tb b1 N (.slice A' l c') R A3 k c3 V (.int .i64 0) (.slice none 0 0) X from by
    have bX : Bl w2 X := by rw [hX]; exact ((Bl.refl w2).alloc_ _).alloc_ _
    have tX := TwoT.new (w2.alloc (.cells #[.int .i64 N, .slice A' l c'] 38)) (.int .i64 R) (.slice A3 k c3)
    rw [World.size_alloc, ← hX] at tX
    subst htb
    subst hgb
    subst hb1
    exact ⟨by rw [hX]; exact (Two.new w2 _ _).bl (Bl.alloc_ (Bl.refl _) _), tX, (TwoT.new w _ _).bl (B1.out.trans_ (hb2.trans_ bX)), ho.bl bX, R1.out.bl (hb2.trans_ bX), ((Bl.refl w).alloc_ _).trans_ (B1.out.trans_ (hb2.trans_ bX)), by omega, by omega, by omega, by omega, K.out.lt'⟩)
  clear hk ho hb2 hd
  go_wp2_with fail
  rw [← hX]
  rw [← hgb]
  rw [← htb]
  have l1 := S0.out.lo1
  have l2 := S0.out.lo2
  have l3 := S0.out.lo3
  have l4 := S0.out.lo4
  have n1 : gb ≠ w.heap.size := by omega
  have n2 : tb ≠ w.heap.size := by omega
  have n3 : w.heap.size ≠ gb := by omega
  have n4 : w.heap.size ≠ tb := by omega
  clear hX hgb htb hb1 s1 s2 hlt l1 l2 l3 l4
  obtain ⟨y0, y1, fy0, fy1⟩ := S0.out.boxg.facts
  obtain ⟨x0, x1, fx0, fx1⟩ := S0.out.boxt.facts
  obtain ⟨q0, q1, fq0, fq1⟩ := S0.out.rest.facts
  go_region_with (first
    | (go_at_call 85; refine (node_any N (.slice A' l c') (w.heap.size + 1) A n c _ hn hN.1 hN.2 (by first | exact (S0.out.bl_ (by repeat' (first | exact Bl.refl _ | with_reducible assumption | with_reducible refine Bl.drew_ ?_ | with_reducible refine Bl.drewN_ ?_ _ | with_reducible refine Bl.alloc_ ?_ _ | with_reducible refine Bl.trans_ ?_ (by assumption) | with_reducible refine Bl.trans_ ?_ (And.left (by assumption))))).rdr | exact ((S0.out.put _ _).bl_ (by repeat' (first | exact Bl.refl _ | with_reducible assumption | with_reducible refine Bl.drew_ ?_ | with_reducible refine Bl.drewN_ ?_ _ | with_reducible refine Bl.alloc_ ?_ _ | with_reducible refine Bl.trans_ ?_ (by assumption) | with_reducible refine Bl.trans_ ?_ (And.left (by assumption))))).rdr | exact (((S0.out.bl_ (by repeat' (first | exact Bl.refl _ | with_reducible assumption | with_reducible refine Bl.drew_ ?_ | with_reducible refine Bl.drewN_ ?_ _ | with_reducible refine Bl.alloc_ ?_ _ | with_reducible refine Bl.trans_ ?_ (by assumption) | with_reducible refine Bl.trans_ ?_ (And.left (by assumption))))).put _ _).bl_ (by repeat' (first | exact Bl.refl _ | with_reducible assumption | with_reducible refine Bl.drew_ ?_ | with_reducible refine Bl.drewN_ ?_ _ | with_reducible refine Bl.alloc_ ?_ _ | with_reducible refine Bl.trans_ ?_ (by assumption) | with_reducible refine Bl.trans_ ?_ (And.left (by assumption))))).rdr)).mono ?_; rintro e w8 ⟨z, hz, rfl, hr, hg⟩; (first | (have U3 := Lib.hid ((S0.out.bl_ (by repeat' (first | exact Bl.refl _ | with_reducible assumption | with_reducible refine Bl.drew_ ?_ | with_reducible refine Bl.drewN_ ?_ _ | with_reducible refine Bl.alloc_ ?_ _ | with_reducible refine Bl.trans_ ?_ (by assumption) | with_reducible refine Bl.trans_ ?_ (And.left (by assumption))))).rd_ hr hg)) | (have U3 := Lib.hid (((S0.out.put _ _).bl_ (by repeat' (first | exact Bl.refl _ | with_reducible assumption | with_reducible refine Bl.drew_ ?_ | with_reducible refine Bl.drewN_ ?_ _ | with_reducible refine Bl.alloc_ ?_ _ | with_reducible refine Bl.trans_ ?_ (by assumption) | with_reducible refine Bl.trans_ ?_ (And.left (by assumption))))).rd_ hr hg)) | (have U3 := Lib.hid ((((S0.out.bl_ (by repeat' (first | exact Bl.refl _ | with_reducible assumption | with_reducible refine Bl.drew_ ?_ | with_reducible refine Bl.drewN_ ?_ _ | with_reducible refine Bl.alloc_ ?_ _ | with_reducible refine Bl.trans_ ?_ (by assumption) | with_reducible refine Bl.trans_ ?_ (And.left (by assumption))))).put _ _).bl_ (by repeat' (first | exact Bl.refl _ | with_reducible assumption | with_reducible refine Bl.drew_ ?_ | with_reducible refine Bl.drewN_ ?_ _ | with_reducible refine Bl.alloc_ ?_ _ | with_reducible refine Bl.trans_ ?_ (by assumption) | with_reducible refine Bl.trans_ ?_ (And.left (by assumption))))).rd_ hr hg))); have HZ := Lib.hid hz; clear hr hg hz; obtain ⟨d0, d1, fd0, fd1⟩ := U3.out.rest.facts; obtain ⟨e0, e1, fe0, fe1⟩ := U3.out.boxt.facts))
  all_goals go_wp2
  all_goals (refine bodyPost_ret (v := .tuple #[.agg #[.int .i64 R, .slice A3 k c3], .int .i64 z]) (by simp [results, Try.results35, Act.put, go_sem, d0, d1, fd0, fd1]) (by first | rfl | simp [Act.put]) ?_)
  all_goals (first
    | exact U3.out.fin HKK.out hk2 HZ.out
    | exact (U3.out.put _ _).fin HKK.out hk2 HZ.out
    | exact (U3.out.bl_ (Bl.refl _).drew_).fin HKK.out hk2 HZ.out
    | exact ((U3.out.put _ _).bl_ (Bl.refl _).drew_).fin HKK.out hk2 HZ.out)

set_option maxHeartbeats 2000000 in
theorem drawUnder_any (A : Option Addr) (n c : Nat) (w : World) (hn : n ≤ 1099511627776) (H : BytesAt w A n) :
    Calls Try.prog 34 #[.slice A n c] w (DrawnTv w) := by
  have K := Lib.hid H
  clear H
  go_enter Try.func34, Try.ntmps34
  go_wp2_with fail
  refine (drawPathIn_any A n c _ hn (K.out.bl (by repeat' (first | exact Bl.refl _ | with_reducible assumption | with_reducible refine Bl.drew_ ?_ | with_reducible refine Bl.drewN_ ?_ _ | with_reducible refine Bl.alloc_ ?_ _ | with_reducible refine Bl.trans_ ?_ (by assumption) | with_reducible refine Bl.trans_ ?_ (And.left (by assumption)))))).mono ?_
  rintro e w1 ⟨R, A3, k, c3, V, v, rfl, hk, hk2, ho, hv, hb⟩
  have O := Lib.hid ho
  have HK := Lib.hid hk
  have HV := Lib.hid hv
  have B := Lib.hid hb
  obtain ⟨r0, r1, fr0, fr1⟩ := TwoT.facts ((TwoT.new w (.int .i64 0) (.slice none 0 0)).bl hb)
  have sz := hb.size
  simp only [World.size_alloc] at sz
  clear ho hk hv hb
  go_wp2
  refine bodyPost_ret (v := .tuple #[.agg #[.int .i64 R, .slice A3 k c3], .int .i64 v]) (by simp [results, Try.results34, go_sem, r0, r1, fr0, fr1]) rfl ?_
  have OO := O.out
  rw [World.size_alloc] at OO
  have hne : ∀ g, (Value.slice A3 k c3).ownBlock = some g → g ≠ w.heap.size := fun g hg e => by have := (Owns.lt OO g hg).1; omega
  exact ⟨R, A3, k, c3, V, v, rfl, HK.out, hk2, OwnN.low (Owns.setOther (Owns.setOther OO (p := ⟨w.heap.size, 0, none⟩) hne _) (p := ⟨w.heap.size, 1, none⟩) hne _) (by omega), HV.out, (((Bl.alloc_ (Bl.refl w) _).trans_ B.out).set_ (Nat.le_refl _) _).set_ (Nat.le_refl _) _⟩

set_option maxHeartbeats 2000000 in
theorem drawTreeOf_any (A : Option Addr) (n c : Nat) (w : World) (hn : n ≤ 1099511627776) (H : BytesAt w A n) :
    Calls Try.prog 25 #[.slice A n c] w (DrawnG1 w) := by
  have K := Lib.hid H
  clear H
  go_enter Try.func25, Try.ntmps25
  go_wp2_with fail
  refine (drawDistFrom_any A n c _ hn (K.out.bl (by repeat' (first | exact Bl.refl _ | with_reducible assumption | with_reducible refine Bl.drew_ ?_ | with_reducible refine Bl.drewN_ ?_ _ | with_reducible refine Bl.alloc_ ?_ _ | with_reducible refine Bl.trans_ ?_ (by assumption) | with_reducible refine Bl.trans_ ?_ (And.left (by assumption)))))).mono ?_
  rintro e w1 ⟨N, A', l, c', L, s, rfl, hd, hs, hb⟩
  have D := Lib.hid hd
  have S1 := Lib.hid hs
  have B := Lib.hid hb
  obtain ⟨r0, r1, fr0, fr1⟩ := Two.facts ((Two.new w (.int .i64 0) (.slice none 0 0)).bl hb)
  have sz := hb.size
  simp only [World.size_alloc] at sz
  clear hd hs hb
  go_wp2
  refine bodyPost_ret (v := .tuple #[.agg #[.int .i64 N, .slice A' l c'], .int .i64 s]) (by simp [results, Try.results25, go_sem, r0, r1, fr0, fr1]) rfl ?_
  have DD := D.out
  rw [World.size_alloc] at DD
  exact ⟨N, A', l, c', L, s, rfl, ⟨DD.1, DD.2.1, DD.2.2.1, ((DD.2.2.2.set_ (by show w.heap.size < w.heap.size + 1; omega) _).set_ (by show w.heap.size < w.heap.size + 1; omega) _).low (by omega)⟩, S1.out, (((Bl.alloc_ (Bl.refl w) _).trans_ B.out).set_ (Nat.le_refl _) _).set_ (Nat.le_refl _) _⟩

end Go.Proofs.Ytffjpfanmnkmgaa

set_option linter.unusedSimpArgs false
set_option linter.unusedVariables false
namespace Go.Proofs.Ytffjpfanmnkmgaa

/-- The nodes from r down to v, at most so many. -/
def upF (U : List Int) (r : Int) : Nat → Int → Option (List Int)
  | 0, _ => none
  | f + 1, v => if v < 0 then none else if v = r then some [v] else (upF U r f (dAt U v)).map (· ++ [v])
/-- Is a tree as it should be? -/
def rightU (U : List Int) (r : Int) : Bool := decide (U.length ≤ 24 ∧ (0 ≤ r ∧ r < U.length) ∧ ∀ x ∈ U, -1 ≤ x ∧ x < U.length)
/-- The nodes from the root down to v; none: one does not come there, or there is no such node. -/
def pathU (U : List Int) (r v : Int) : List Int := (upF U r 25 v).getD []
def pathInU (U : List Int) (r v : Int) : List Int := if (rightU U r && decide (0 ≤ v ∧ v < U.length)) = true then pathU U r v else []

variable {U : List Int} {r : Int}
theorem upF_more : ∀ {f : Nat} {v : Int} {P : List Int}, upF U r f v = some P → ∀ f', P.length ≤ f' → upF U r f' v = some P
  | 0, _, _, h, _, _ => by simp [upF] at h
  | f + 1, v, P, h, f', hf => by
    unfold upF at h
    by_cases h0 : v < 0
    · rw [if_pos h0] at h; cases h
    · rw [if_neg h0] at h
      by_cases h1 : v = r
      · rw [if_pos h1] at h
        injection h with h
        subst h
        obtain ⟨g, rfl⟩ : ∃ g, f' = g + 1 := ⟨f' - 1, by simp at hf; omega⟩
        unfold upF
        rw [if_neg h0, if_pos h1]
      · rw [if_neg h1] at h
        obtain ⟨Q, hQ, rfl⟩ := Option.map_eq_some_iff.1 h
        simp at hf
        obtain ⟨g, rfl⟩ : ∃ g, f' = g + 1 := ⟨f' - 1, by omega⟩
        unfold upF
        rw [if_neg h0, if_neg h1, upF_more hQ g (by omega)]
        rfl
theorem upF_fuel : ∀ {f : Nat} {v : Int} {P : List Int}, upF U r f v = some P → P.length ≤ f
  | 0, _, _, h => by simp [upF] at h
  | f + 1, v, P, h => by
    unfold upF at h
    by_cases h0 : v < 0
    · rw [if_pos h0] at h; cases h
    · rw [if_neg h0] at h
      by_cases h1 : v = r
      · rw [if_pos h1] at h
        injection h with h
        subst h
        simp
      · rw [if_neg h1] at h
        obtain ⟨Q, hQ, rfl⟩ := Option.map_eq_some_iff.1 h
        have := upF_fuel hQ
        simp
        omega
theorem upF_pre : ∀ {f : Nat} {v : Int} {P : List Int}, upF U r f v = some P → ∀ i (hi : i < P.length), upF U r (i + 1) P[i] = some (P.take (i + 1))
  | 0, _, _, h, _, _ => by simp [upF] at h
  | f + 1, v, P, h, i, hi => by
    have h' := h
    unfold upF at h
    by_cases h0 : v < 0
    · rw [if_pos h0] at h; cases h
    · rw [if_neg h0] at h
      by_cases h1 : v = r
      · rw [if_pos h1] at h
        injection h with h
        subst h
        obtain rfl : i = 0 := by simp at hi; omega
        show upF U r 1 v = some [v]
        rw [upF, if_neg h0, if_pos h1]
      · rw [if_neg h1] at h
        obtain ⟨Q, hQ, rfl⟩ := Option.map_eq_some_iff.1 h
        by_cases hl : i < Q.length
        · rw [List.getElem_append_left hl, upF_pre hQ i hl, List.take_append_of_le_length (by omega)]
        · obtain rfl : i = Q.length := by simp at hi; omega
          rw [List.getElem_append_right (Nat.le_refl _)]
          simp only [Nat.sub_self, List.getElem_cons_zero]
          rw [upF_more h' (Q.length + 1) (by simp), List.take_of_length_le (by simp)]
theorem upF_last : ∀ {f : Nat} {v : Int} {P : List Int}, upF U r f v = some P → ∃ Q, P = Q ++ [v]
  | 0, _, _, h => by simp [upF] at h
  | f + 1, v, P, h => by
    unfold upF at h
    by_cases h0 : v < 0
    · rw [if_pos h0] at h; cases h
    · rw [if_neg h0] at h
      by_cases h1 : v = r
      · rw [if_pos h1] at h
        injection h with h
        exact ⟨[], h.symm⟩
      · rw [if_neg h1] at h
        obtain ⟨Q, hQ, rfl⟩ := Option.map_eq_some_iff.1 h
        exact ⟨Q, rfl⟩
theorem upF_first : ∀ {f : Nat} {v : Int} {P : List Int}, upF U r f v = some P → ∃ Q, P = r :: Q
  | 0, _, _, h => by simp [upF] at h
  | f + 1, v, P, h => by
    unfold upF at h
    by_cases h0 : v < 0
    · rw [if_pos h0] at h; cases h
    · rw [if_neg h0] at h
      by_cases h1 : v = r
      · rw [if_pos h1] at h
        injection h with h
        exact ⟨[], by rw [← h, h1]⟩
      · rw [if_neg h1] at h
        obtain ⟨Q, hQ, rfl⟩ := Option.map_eq_some_iff.1 h
        obtain ⟨Q', rfl⟩ := upF_first hQ
        exact ⟨Q' ++ [v], rfl⟩
theorem upF_nodup {f : Nat} {v : Int} {P : List Int} (h : upF U r f v = some P) {i j : Nat} (hij : i < j) (hj : j < P.length) : P[i]'(by omega) ≠ P[j] := fun e => by
  have h1 := upF_pre h i (by omega)
  have h2 := upF_pre h j hj
  rw [e] at h1
  have h3 := upF_more h1 (j + 1) (by rw [List.length_take]; omega)
  rw [h2] at h3
  injection h3 with h3
  have := congrArg List.length h3
  rw [List.length_take, List.length_take] at this
  omega
theorem upF_in : ∀ {f : Nat} {v : Int} {P : List Int}, upF U r f v = some P → (∀ x ∈ U, x < U.length) → v < U.length → ∀ x ∈ P, 0 ≤ x ∧ x < U.length
  | 0, _, _, h, _, _ => by simp [upF] at h
  | f + 1, v, P, h, hU, hv => by
    unfold upF at h
    by_cases h0 : v < 0
    · rw [if_pos h0] at h; cases h
    · rw [if_neg h0] at h
      by_cases h1 : v = r
      · rw [if_pos h1] at h
        injection h with h
        subst h
        intro x hx
        obtain rfl := List.mem_singleton.1 hx
        omega
      · rw [if_neg h1] at h
        obtain ⟨Q, hQ, rfl⟩ := Option.map_eq_some_iff.1 h
        have hd : dAt U v < U.length := by
          unfold dAt
          rw [List.getD_eq_getElem?_getD]
          cases hg : U[v.toNat]? with
          | none => simp; omega
          | some x => simp; exact hU x (List.mem_of_getElem? hg)
        have ih := upF_in hQ hU hd
        intro x hx
        rcases List.mem_append.1 hx with hx | hx
        · exact ih x hx
        · obtain rfl := List.mem_singleton.1 hx
          omega
theorem upF_len {f : Nat} {v : Int} {P : List Int} (h : upF U r f v = some P) (hU : ∀ x ∈ U, x < U.length) (hv : v < U.length) : P.length ≤ U.length := by
  have hin := upF_in h hU hv
  have hn : (P.map Int.toNat).Nodup := by
    unfold List.Nodup
    rw [List.pairwise_iff_getElem]
    intro i j hi hj hij e
    rw [List.length_map] at hi hj
    rw [List.getElem_map, List.getElem_map] at e
    have a := hin P[i] (List.getElem_mem hi)
    have b := hin P[j] (List.getElem_mem hj)
    exact upF_nodup h hij hj (by omega)
  have := nodup_len U.length (P.map Int.toNat) hn fun n hm => by
    obtain ⟨x, hx, rfl⟩ := List.mem_map.1 hm
    have := hin x hx
    omega
  rwa [List.length_map] at this
theorem upF_same {f f' : Nat} {v : Int} (hU : ∀ x ∈ U, x < U.length) (hv : v < U.length) (hf : U.length ≤ f) (hf' : U.length ≤ f') : upF U r f v = upF U r f' v := by
  cases h : upF U r f v with
  | some P => exact (upF_more h f' (by have := upF_len h hU hv; omega)).symm
  | none =>
    cases h' : upF U r f' v with
    | none => rfl
    | some P =>
      rw [upF_more h' f (by have := upF_len h' hU hv; omega)] at h
      cases h
theorem rightU_elim (h : rightU U r = true) : U.length ≤ 24 ∧ (0 ≤ r ∧ r < U.length) ∧ ∀ x ∈ U, -1 ≤ x ∧ x < U.length := by simpa [rightU] using h
/-- One step. -/
theorem upF_step {f : Nat} {v : Int} (h0 : ¬ v < 0) (h1 : v ≠ r) : upF U r (f + 1) v = (upF U r f (dAt U v)).map (· ++ [v]) := by
  rw [upF, if_neg h0, if_neg h1]
theorem upF_root {f : Nat} {v : Int} (h0 : ¬ v < 0) (h1 : v = r) : upF U r (f + 1) v = some [v] := by
  rw [upF, if_neg h0, if_pos h1]
theorem upF_neg {f : Nat} {v : Int} (h0 : v < 0) : upF U r f v = none := by
  cases f with
  | zero => rfl
  | succ f => rw [upF, if_pos h0]
theorem pathU_len (U : List Int) (r v : Int) : (pathU U r v).length ≤ 25 := by
  unfold pathU
  cases h : upF U r 25 v with
  | none => simp
  | some P => exact upF_fuel h
theorem pathInU_len (U : List Int) (r v : Int) : (pathInU U r v).length ≤ 1048576 := by
  unfold pathInU
  split
  · have := pathU_len U r v; omega
  · simp

end Go.Proofs.Ytffjpfanmnkmgaa
