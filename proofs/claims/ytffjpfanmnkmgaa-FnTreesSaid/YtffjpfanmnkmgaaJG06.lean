/-
  What is proved here: arrays of 24 numbers, in blocks of their own; a whole array is loaded and stored by laws; the small functions of the code that ask for nodes, for the arcs from a node and for the weight of an arc; plain facts on heaps as lists of pairs: up, down, picking the least, order; contracts of the laws' small functions on items and on slices of items; items that are copied, marked, and held against their marks; contracts of less, of the place above, and of the exchange of two items, on both sides. No conditions beyond those that each theorem states.
-/
import Derived.Test.YtffjpfanmnkmgaaJG05
import Derived.Deep.MidRow
import Derived.Laws.Rows
import Derived.Test.YtffjpfanmnkmgaaJG04
import Derived.Test.YtffjpfanmnkmgaaJG03
import Derived.Test.YtffjpfanmnkmgaaJG01
import Derived.BigRegion
set_option linter.unusedSimpArgs false
set_option linter.unusedVariables false
namespace Go.Proofs.Ytffjpfanmnkmgaa
open Go.RowKit

theorem wpListIn_load_mid {F : Fence} {n : Nat} {P : Program} {w : World} {ops : Array Oper} {rest : List Oper} {op : Oper} {a : Act} {Q : Exit → Act → World → Prop} (hgd : op.guard = none) (ty : TypeId) (x : Operand) (ho : op.op = .load ty x)
    (b o : Nat) (hx : a.eval x = .pointer (some ⟨b, o, none⟩)) (cs : List Value) (d : TypeDesc) (hc : w.rangeAt b o cs)
    (hu : P.underlying ty = some d) (hd : d.isRow = true) (hi : (P.info? ty).map (·.size) = some cs.length)
    (h : wpListIn F n P ops Q rest (a.put op.dst (.agg cs.toArray)) w) : wpListIn F n P ops Q (op :: rest) a w := by
  refine wpListIn_plain hgd fun K hK' => ?_
  unfold Oper.wpIn
  refine ⟨?_, ?_⟩
  · simp [Oper.about, ho]
  · rw [Oper.semAt_plain F _ _ (by rw [ho]; intro c hc'; cases hc')]
    unfold execOp
    simp only [ho, hx, Instr.loadAt, Instr.sureAddr, Sem.run_bind, Sem.run_pure, Result.andThen_ok, run_loadVar_mid w b o ty cs d hc hu hd hi]
    exact hK' _ _ h
theorem wpListIn_store_mid {F : Fence} {n : Nat} {P : Program} {w : World} {ops : Array Oper} {rest : List Oper} {op : Oper} {a : Act} {Q : Exit → Act → World → Prop} (hgd : op.guard = none) (ty : TypeId) (x y : Operand) (ho : op.op = .store ty x y)
    (b o : Nat) (cells : Array Value) (hx : a.eval x = .pointer (some ⟨b, o, none⟩)) (hy : a.eval y = .agg cells)
    (ht : w.there b o cells.size) (hi : (P.info? ty).map (·.size) = some cells.size) (h1 : cells.all (·.oneCell') = true)
    (h : wpListIn F n P ops Q rest (a.put op.dst undef) (w.setCells b o cells.toList)) : wpListIn F n P ops Q (op :: rest) a w := by
  refine wpListIn_plain hgd fun K hK' => ?_
  unfold Oper.wpIn
  refine ⟨?_, ?_⟩
  · simp [Oper.about, ho]
  · rw [Oper.semAt_plain F _ _ (by rw [ho]; intro c hc'; cases hc')]
    unfold execOp
    simp only [ho, hx, hy, Instr.storeAt, Instr.sureAddr, Sem.run_bind, Sem.run_pure, Result.andThen_ok, run_storeVar_mid w b o ty cells ht hi h1]
    exact hK' _ _ h

/-- The cells of numbers. -/
def csI (V : List Int) : List Value := V.map (.int .i64)
theorem csI_at {V : List Int} {k : Nat} (h : k < (csI V).length) : (csI V)[k] = .int .i64 (V[k]'(by simpa [csI] using h)) := by simp [csI]
theorem csI_len (V : List Int) : (csI V).length = V.length := by simp [csI]
theorem csI_one (V : List Int) : (csI V).toArray.all (·.oneCell') = true := by
  refine all_oneCell_toArray fun v hv => ?_
  obtain ⟨x, _, rfl⟩ := List.mem_map.1 hv
  rfl

theorem csI_one' (V : List Int) : ∀ u ∈ csI V, u.oneCell' = true := fun v hv => by
  obtain ⟨x, _, rfl⟩ := List.mem_map.1 hv
  rfl

theorem Turn.cells {S : Nat → Prop} {w w' : World} (h : Turn S w w') {g : Nat} (hg : g < w.heap.size) (hS : ¬ S g) (o : Nat) : w'.cell? ⟨g, o, none⟩ = w.cell? ⟨g, o, none⟩ ∧ w'.frozen? ⟨g, o, none⟩ = w.frozen? ⟨g, o, none⟩ :=
  ⟨World.cell?_of_block (h.block g hg hS), World.frozen?_of_block (h.block g hg hS)⟩

/-- An array of 24 numbers. -/
structure NumsAt (w : World) (b : Nat) (E : List Int) : Prop where
  lt : b < w.heap.size
  len : E.length = 24
  cell : ∀ i (h : i < E.length), w.cell? ⟨b, i, none⟩ = some (.int .i64 E[i])
  free : ∀ i, i < 24 → w.frozen? ⟨b, i, none⟩ = false
theorem NumsAt.turn {w w' : World} {b : Nat} {E : List Int} (h : NumsAt w b E) {S : Nat → Prop} (k : Turn S w w') (hS : ¬ S b) : NumsAt w' b E :=
  ⟨Nat.lt_of_lt_of_le h.lt k.size, h.len, fun i hi => (k.cells h.lt hS i).1.trans (h.cell i hi), fun i hi => (k.cells h.lt hS i).2.trans (h.free i hi)⟩
theorem NumsAt.bl {w w' : World} {b : Nat} {E : List Int} (h : NumsAt w b E) (k : Bl w w') : NumsAt w' b E := h.turn (Turn.of_bl (S := fun _ => False) k) id
theorem NumsAt.set {w : World} {b : Nat} {E : List Int} (h : NumsAt w b E) {u : Nat} (x : Int) : NumsAt (w.setCell ⟨b, u, none⟩ (.int .i64 x)) b (E.set u x) := by
  refine ⟨by simpa using h.lt, by simpa using h.len, fun i hi => ?_, fun i hi => by rw [World.frozen?_setCell]; exact h.free i hi⟩
  rw [List.length_set] at hi
  rw [List.getElem_set]
  by_cases e : u = i
  · subst e
    rw [World.cell?_setCell_same' _ _ _ (by rw [h.cell u hi]; rfl), if_pos rfl]
  · rw [World.cell?_setCell_other _ _ _ _ (by intro e'; injection e' with _ e2; exact e e2), h.cell i hi, if_neg e]
theorem NumsAt.range {w : World} {b : Nat} {E : List Int} (h : NumsAt w b E) : w.rangeAt b 0 (csI E) := fun j v hv => by
  obtain ⟨hj, rfl⟩ := List.getElem?_eq_some_iff.1 hv
  rw [csI_len] at hj
  rw [Nat.zero_add, csI_at]
  exact h.cell j hj
theorem setCells_size (b : Nat) : ∀ (vs : List Value) (o : Nat) (w : World), (w.setCells b o vs).heap.size = w.heap.size
  | [], _, _ => rfl
  | v :: r, o, w => by
    rw [World.setCells, setCells_size b r]
    simp
theorem Bl.setCells_ {a : World} (b : Nat) (hb : a.heap.size ≤ b) : ∀ (vs : List Value) (o : Nat) (w : World), Bl a w → Bl a (w.setCells b o vs)
  | [], _, _, h => h
  | v :: r, o, w, h => by
    rw [World.setCells]
    exact Bl.setCells_ b hb r (o + 1) _ (h.set_ hb v)
theorem Turn.setCells_ {S : Nat → Prop} {a : World} (b : Nat) (hb : S b) : ∀ (vs : List Value) (o : Nat) (w : World), Turn S a w → Turn S a (w.setCells b o vs)
  | [], _, _, h => h
  | v :: r, o, w, h => by
    rw [World.setCells]
    exact Turn.setCells_ b hb r (o + 1) _ (Turn.set (p := ⟨b, o, none⟩) h (.inl hb) v)
/-- 24 numbers that are stored over 24 cells lie there. -/
theorem NumsAt.stored {w : World} {b : Nat} {E : List Int} (hE : E.length = 24) (hl : b < w.heap.size) (ht : w.there b 0 24) : NumsAt (w.setCells b 0 (csI E)) b E := by
  have hr := World.rangeAt_setCells_same w b 0 (csI E) (by rw [csI_len, hE]; exact ht)
  refine ⟨by rw [setCells_size]; exact hl, hE, fun i hi => ?_, fun i hi => ?_⟩
  · have := hr i (.int .i64 E[i]) (by rw [List.getElem?_eq_getElem (by rw [csI_len]; exact hi), csI_at])
    rwa [Nat.zero_add] at this
  · rw [World.frozen?_setCells]
    have := (ht i hi).2
    rwa [Nat.zero_add] at this
theorem there_of_cells {w : World} {b : Nat} (h : ∀ i, i < 24 → (w.cell? ⟨b, i, none⟩).isSome = true ∧ w.frozen? ⟨b, i, none⟩ = false) : w.there b 0 24 := fun j hj => by
  rw [Nat.zero_add]
  exact h j hj

theorem results_cell_mid {P : Program} {fn : Func} {p : Tmp} {ty : TypeId} (h : fn.results = #[.cell p ty]) (tmps : Array Value) (w : World) (b : Nat) (cs : List Value) (d : TypeDesc)
    (hp : tmps.getD p undef = .pointer (some ⟨b, 0, none⟩)) (hc : w.rangeAt b 0 cs)
    (hu : P.underlying ty = some d) (hd : d.isRow = true) (hi : (P.info? ty).map (·.size) = some cs.length) :
    (results fn tmps).run P w = .ok (.agg cs.toArray) w := by
  have hp' : tmps[p]?.getD undef = .pointer (some ⟨b, 0, none⟩) := by simpa using hp
  simp [results, h, hp', asAddr, run_loadVar_mid w b 0 ty cs d hc hu hd hi]

end Go.Proofs.Ytffjpfanmnkmgaa

set_option linter.unusedSimpArgs false
set_option linter.unusedVariables false
namespace Go.Proofs.Ytffjpfanmnkmgaa
open Go.RowKit

/-- Is the graph right, and are all of these nodes of it? -/
def hasB (N : Int) (L : List Arc3) (V : List Int) : Bool := okB N L && V.all fun v => decide (0 ≤ v ∧ v < N)
set_option maxHeartbeats 1000000 in
theorem hasNodes_any (N : Int) (A : Option Addr) (n c : Nat) (L : List Arc3) (hn : n = L.length) (A2 : Option Addr) (k c2 : Nat) (V : List Int) (hk : k = V.length) (w : World) (hm : n ≤ 9223372036854775807) (hkm : k ≤ 1048576) (H1 : ArcsAt w w.heap.size A L) (H2 : CellsAt w w.heap.size A2 (csI V)) :
    Calls Try.prog 72 #[.agg #[.int .i64 N, .slice A n c], .slice A2 k c2] w fun e w' => e = .returned (.bool (hasB N L V)) ∧ Bl w w' := by
  have K1 := Lib.hid H1
  have K2 := Lib.hid H2
  have HN := Lib.hid hn
  have HK := Lib.hid hk
  clear H1 H2 hn hk
  by_cases ho : okB N L = true
  · have HO := Lib.hid ho
    clear ho
    go_enter Try.func72, Try.ntmps72
    go_wp2_with fail
    refine (implOk_any N A n c L HN.out _ (by omega) (K1.out.bl (by repeat' (first | exact Bl.refl _ | with_reducible assumption | with_reducible refine Bl.drew_ ?_ | with_reducible refine Bl.drewN_ ?_ _ | with_reducible refine Bl.alloc_ ?_ _ | with_reducible refine Bl.trans_ ?_ (by assumption) | with_reducible refine Bl.trans_ ?_ (And.left (by assumption)))))).mono ?_
    rintro e w1 ⟨rfl, hb1⟩
    rw [HO.out]
    obtain ⟨q0, q1⟩ := box2 hb1
    go_wp2_with fail
    clear q0 q1
    go_loopw [12] (fun i wr => ∃ j : Nat, j ≤ k ∧ i = .int .i64 j ∧ Bl (w.alloc (.cells #[.int .i64 N, .slice A n c] 38)) wr ∧ ∀ t (h : t < V.length), t < j → 0 ≤ V[t] ∧ V[t] < N) (fun i _ => k - (intOf i).toNat)
    case atStart => exact ⟨0, by omega, rfl, hb1, fun t h h' => absurd h' (by omega)⟩
    case round =>
      obtain ⟨j, hj, rfl, hbl, hno⟩ := hrel
      have NO := Lib.hid hno
      clear hno
      obtain ⟨q0, q1⟩ := box2 hbl
      have hbw : Bl w wr := (Bl.alloc_ (Bl.refl w) _).trans_ hbl
      by_cases hlt : j < k
      · have hjl : j < V.length := by have := HK.out; omega
        obtain ⟨g2, o2, rfl, hg2, hc2⟩ := K2.out (by rw [csI_len]; omega)
        have p1 := hc2 j (by rw [csI_len]; exact hjl)
        rw [csI_at] at p1
        clear hc2
        rw [← (bcell hbw).1 _ _ hg2] at p1
        generalize hx : V[j] = x at p1
        have HX := Lib.hid hx
        clear hx
        by_cases hin : 0 ≤ x ∧ x < N
        · have hd : decide (0 ≤ x ∧ x < N) = true := by simpa using hin
          have HIN := Lib.hid hin
          clear hin
          go_wp2_with fail
          refine (isNode_any N x _ _).mono ?_
          rintro e w3 ⟨rfl, hb3⟩
          rw [hd]
          clear q0 q1
          go_wp2
          go_roundw
          case rel =>
            refine ⟨j + 1, by omega, by go_num, (by repeat' (first | exact Bl.refl _ | with_reducible assumption | with_reducible refine Bl.drew_ ?_ | with_reducible refine Bl.drewN_ ?_ _ | with_reducible refine Bl.alloc_ ?_ _ | with_reducible refine Bl.trans_ ?_ (by assumption) | with_reducible refine Bl.trans_ ?_ (And.left (by assumption)))), fun t h ht => ?_⟩
            rcases Nat.lt_or_ge t j with h' | h'
            · exact NO.out t h h'
            · obtain rfl : t = j := by omega
              rw [HX.out]
              exact HIN.out
          case measure => simp [intOf]; omega
        · have hd : decide (0 ≤ x ∧ x < N) = false := by simpa using hin
          have HIN := Lib.hid hin
          clear hin
          go_wp2_with fail
          refine (isNode_any N x _ _).mono ?_
          rintro e w3 ⟨rfl, hb3⟩
          rw [hd]
          clear q0 q1
          go_wp2
          go_ret
          refine ⟨ret_bool ?_, (by repeat' (first | exact Bl.refl _ | with_reducible assumption | with_reducible refine Bl.drew_ ?_ | with_reducible refine Bl.drewN_ ?_ _ | with_reducible refine Bl.alloc_ ?_ _ | with_reducible refine Bl.trans_ ?_ (by assumption) | with_reducible refine Bl.trans_ ?_ (And.left (by assumption))))⟩
          unfold hasB
          rw [HO.out, Bool.true_and]
          symm
          rw [List.all_eq_false]
          exact ⟨V[j], List.getElem_mem hjl, by rw [HX.out]; simpa using HIN.out⟩
      · go_wp2
        go_ret
        refine ⟨ret_bool ?_, (by repeat' (first | exact Bl.refl _ | with_reducible assumption | with_reducible refine Bl.drew_ ?_ | with_reducible refine Bl.drewN_ ?_ _ | with_reducible refine Bl.alloc_ ?_ _ | with_reducible refine Bl.trans_ ?_ (by assumption) | with_reducible refine Bl.trans_ ?_ (And.left (by assumption))))⟩
        unfold hasB
        rw [HO.out, Bool.true_and]
        symm
        rw [List.all_eq_true]
        intro v hv
        obtain ⟨t, ht, rfl⟩ := List.mem_iff_getElem.1 hv
        simpa using NO.out t ht (by have := HK.out; omega)
  · have ho' : okB N L = false := by simpa using ho
    have HO := Lib.hid ho'
    clear ho ho'
    go_enter Try.func72, Try.ntmps72
    go_wp2_with fail
    refine (implOk_any N A n c L HN.out _ (by omega) (K1.out.bl (by repeat' (first | exact Bl.refl _ | with_reducible assumption | with_reducible refine Bl.drew_ ?_ | with_reducible refine Bl.drewN_ ?_ _ | with_reducible refine Bl.alloc_ ?_ _ | with_reducible refine Bl.trans_ ?_ (by assumption) | with_reducible refine Bl.trans_ ?_ (And.left (by assumption)))))).mono ?_
    rintro e w1 ⟨rfl, hb1⟩
    rw [HO.out]
    go_wp2
    go_ret
    exact ⟨ret_bool (by unfold hasB; rw [HO.out, Bool.false_and]), (by repeat' (first | exact Bl.refl _ | with_reducible assumption | with_reducible refine Bl.drew_ ?_ | with_reducible refine Bl.drewN_ ?_ _ | with_reducible refine Bl.alloc_ ?_ _ | with_reducible refine Bl.trans_ ?_ (by assumption) | with_reducible refine Bl.trans_ ?_ (And.left (by assumption))))⟩

/-- hasNodes with one node, as it is called. -/
def has1 (N : Int) (L : List Arc3) (v : Int) : Bool := okB N L && decide (0 ≤ v ∧ v < N)
def has2 (N : Int) (L : List Arc3) (u v : Int) : Bool := okB N L && decide ((0 ≤ u ∧ u < N) ∧ (0 ≤ v ∧ v < N))
theorem hasB_1 (N : Int) (L : List Arc3) (v : Int) : hasB N L [v] = has1 N L v := by simp [hasB, has1]
theorem hasB_2 (N : Int) (L : List Arc3) (u v : Int) : hasB N L [u, v] = has2 N L u v := by
  simp only [hasB, has2, List.all_cons, List.all_nil, Bool.and_true]
  congr 1
  rw [Bool.eq_iff_iff]
  simp
theorem hasNodes_1 (N v : Int) (A : Option Addr) (n c : Nat) (L : List Arc3) (hn : n = L.length) (g c2 : Nat) (w : World) (hm : n ≤ 9223372036854775807) (H1 : ArcsAt w w.heap.size A L) (hg : g < w.heap.size) (h0 : w.cell? ⟨g, 0, none⟩ = some (.int .i64 v)) :
    Calls Try.prog 72 #[.agg #[.int .i64 N, .slice A n c], .slice (some ⟨g, 0, none⟩) 1 c2] w fun e w' => e = .returned (.bool (has1 N L v)) ∧ Bl w w' := by
  rw [← hasB_1]
  refine hasNodes_any N A n c L hn _ 1 c2 [v] rfl w hm (by omega) H1 (fun _ => ⟨g, 0, rfl, hg, fun j hj => ?_⟩)
  obtain rfl : j = 0 := by simpa [csI] using hj
  simpa [csI] using h0
theorem hasNodes_2 (N u v : Int) (A : Option Addr) (n c : Nat) (L : List Arc3) (hn : n = L.length) (g c2 : Nat) (w : World) (hm : n ≤ 9223372036854775807) (H1 : ArcsAt w w.heap.size A L) (hg : g < w.heap.size) (h0 : w.cell? ⟨g, 0, none⟩ = some (.int .i64 u)) (h1 : w.cell? ⟨g, 1, none⟩ = some (.int .i64 v)) :
    Calls Try.prog 72 #[.agg #[.int .i64 N, .slice A n c], .slice (some ⟨g, 0, none⟩) 2 c2] w fun e w' => e = .returned (.bool (has2 N L u v)) ∧ Bl w w' := by
  rw [← hasB_2]
  refine hasNodes_any N A n c L hn _ 2 c2 [u, v] rfl w hm (by omega) H1 (fun _ => ⟨g, 0, rfl, hg, fun j hj => ?_⟩)
  have hj' : j < 2 := by simpa [csI] using hj
  match j, hj' with
  | 0, _ => simpa [csI] using h0
  | 1, _ => simpa [csI] using h1

set_option maxHeartbeats 400000 in
theorem arcWeight_any (N u v : Int) (A : Option Addr) (n c : Nat) (L : List Arc3) (hn : n = L.length) (w : World) (hm : n ≤ 1048576) (hs : SortedA L) (H1 : ArcsAt w w.heap.size A L) :
    Calls Try.prog 84 #[.agg #[.int .i64 N, .slice A n c], .int .i64 u, .int .i64 v] w fun e w' => e = .returned (.int .i64 (wtL u v L)) ∧ Bl w w' := by
  have K1 := Lib.hid H1
  have HN := Lib.hid hn
  have HS := Lib.hid hs
  clear H1 hn hs
  go_enter Try.func84, Try.ntmps84
  go_wp2_with fail
  refine (placeOf_any N u v A n c L HN.out _ hm HS.out (K1.out.bl (by repeat' (first | exact Bl.refl _ | with_reducible assumption | with_reducible refine Bl.drew_ ?_ | with_reducible refine Bl.drewN_ ?_ _ | with_reducible refine Bl.alloc_ ?_ _ | with_reducible refine Bl.trans_ ?_ (by assumption) | with_reducible refine Bl.trans_ ?_ (And.left (by assumption)))))).mono ?_
  rintro e w2 ⟨p, f, hp, rfl, hb2⟩
  have HP := Lib.hid (bs_wt HS.out hp)
  clear hp
  obtain ⟨q0, q1⟩ := box2 hb2
  cases f with
  | false =>
    have HP0 := Lib.hid (HP.out.2 rfl)
    clear HP
    go_wp2
    go_ret
    exact ⟨ret_int HP0.out.symm, (by repeat' (first | exact Bl.refl _ | with_reducible assumption | with_reducible refine Bl.drew_ ?_ | with_reducible refine Bl.drewN_ ?_ _ | with_reducible refine Bl.alloc_ ?_ _ | with_reducible refine Bl.trans_ ?_ (by assumption) | with_reducible refine Bl.trans_ ?_ (And.left (by assumption))))⟩
  | true =>
    obtain ⟨hpl, hwt⟩ := HP.out.1 rfl
    have HWT := Lib.hid hwt
    clear hwt HP
    have hpn : p < n := by have := HN.out; omega
    obtain ⟨g1, o1, rfl, hg1, hc1⟩ := K1.out (by omega)
    obtain ⟨p1, p2, p3⟩ := hc1 p hpl
    clear hc1
    have hbw : Bl w w2 := (Bl.alloc_ (Bl.refl w) _).trans_ hb2
    rw [← (bcell hbw).1 _ _ hg1] at p1 p2 p3
    generalize hz : L[p].2.2 = z at p3
    have HZ := Lib.hid hz
    clear hz p1 p2
    go_wp2
    go_ret
    exact ⟨ret_int (by rw [HWT.out, HZ.out]), hbw⟩


theorem from_cut {L : List Arc3} {v : Int} {p q : Nat} {f f' : Bool} (ho : ∀ a ∈ L, 0 ≤ a.2.1) (h : BsAt L v 0 p f) (h' : BsAt L (v + 1) 0 q f') : p ≤ q ∧ q ≤ L.length ∧ (L.take q).drop p = fromL v L := by
  obtain ⟨hp, hlo, hhi, -⟩ := h
  obtain ⟨hq, klo, khi, -⟩ := h'
  have hpq : p ≤ q := by
    rcases Nat.lt_or_ge q p with h | h
    · have h1 := hlo q (by omega) h
      have h2 := khi q (by omega) (Nat.le_refl _)
      simp only [aheadB, decide_eq_true_eq, decide_eq_false_iff_not] at h1 h2
      omega
    · exact h
  refine ⟨hpq, hq, ?_⟩
  have e : L = L.take p ++ ((L.take q).drop p ++ L.drop q) := by
    have h1 : (L.take q).take p ++ (L.take q).drop p = L.take q := List.take_append_drop _ _
    rw [List.take_take, Nat.min_eq_left hpq] at h1
    rw [← List.append_assoc, h1, List.take_append_drop]
  have e1 : (L.take p).filter (fun a => a.1 == v) = [] := by
    rw [List.filter_eq_nil_iff]
    intro a ha
    obtain ⟨k, hk, rfl⟩ := List.mem_iff_getElem.1 ha
    rw [List.length_take] at hk
    rw [List.getElem_take]
    have h1 := hlo k (by omega) (by omega)
    have h2 := ho L[k] (List.getElem_mem _)
    simp only [aheadB, decide_eq_true_eq] at h1
    simp
    omega
  have e2 : (L.drop q).filter (fun a => a.1 == v) = [] := by
    rw [List.filter_eq_nil_iff]
    intro a ha
    obtain ⟨k, hk, rfl⟩ := List.mem_iff_getElem.1 ha
    rw [List.length_drop] at hk
    rw [List.getElem_drop]
    have h1 := khi (q + k) (by omega) (by omega)
    have h2 := ho L[q + k] (List.getElem_mem _)
    simp only [aheadB, decide_eq_false_iff_not] at h1
    simp
    omega
  have e3 : ((L.take q).drop p).filter (fun a => a.1 == v) = (L.take q).drop p := by
    rw [List.filter_eq_self]
    intro a ha
    obtain ⟨k, hk, rfl⟩ := List.mem_iff_getElem.1 ha
    rw [List.length_drop, List.length_take] at hk
    rw [List.getElem_drop, List.getElem_take]
    have h1 := hhi (p + k) (by omega) (by omega)
    have h2 := klo (p + k) (by omega) (by omega)
    have h3 := ho L[p + k] (List.getElem_mem _)
    simp only [aheadB, decide_eq_false_iff_not, decide_eq_true_eq] at h1 h2
    simp
    omega
  unfold fromL
  conv => rhs; rw [e]
  rw [List.filter_append, List.filter_append, e1, e2, e3]
  simp

theorem ret_slice {A : Option Addr} {n m c : Nat} (h : n = m) : Ending.returned (.slice A n c) = .returned (.slice A m c) := by rw [h]
/-- A part of a list of arcs is left, where it lay. -/
def PartOf (w : World) (A : Option Addr) (M : List Arc3) (e : Ending) (w' : World) : Prop := ∃ A' c', e = .returned (.slice A' M.length c') ∧ M.length ≤ c' ∧ ArcsAt w' w.heap.size A' M ∧ blockOf A' = blockOf A ∧ Bl w w'

set_option maxHeartbeats 1000000 in
theorem arcsFrom_any (N v : Int) (A : Option Addr) (n c : Nat) (L : List Arc3) (hn : n = L.length) (w : World) (hm : n ≤ 1048576) (hc : n ≤ c) (hs : SortedA L) (ho : ∀ a ∈ L, 0 ≤ a.2.1) (hv0 : -1000000 ≤ v) (hv : v ≤ 1000000) (H1 : ArcsAt w w.heap.size A L) :
    Calls Try.prog 112 #[.agg #[.int .i64 N, .slice A n c], .int .i64 v] w (PartOf w A (fromL v L)) := by
  have K1 := Lib.hid H1
  have HN := Lib.hid hn
  have HS := Lib.hid hs
  have HO := Lib.hid ho
  clear H1 hn hs ho
  go_enter Try.func112, Try.ntmps112
  go_wp2_with fail
  refine (placeOf_any N v 0 A n c L HN.out _ hm HS.out (K1.out.bl (by repeat' (first | exact Bl.refl _ | with_reducible assumption | with_reducible refine Bl.drew_ ?_ | with_reducible refine Bl.drewN_ ?_ _ | with_reducible refine Bl.alloc_ ?_ _ | with_reducible refine Bl.trans_ ?_ (by assumption) | with_reducible refine Bl.trans_ ?_ (And.left (by assumption)))))).mono ?_
  rintro e w1 ⟨p, f, hp, rfl, hb1⟩
  have HP := Lib.hid hp
  clear hp
  obtain ⟨q0, q1⟩ := box2 hb1
  go_wp2_with fail
  refine (placeOf_any N (v + 1) 0 A n c L HN.out _ hm HS.out (K1.out.bl (by repeat' (first | exact Bl.refl _ | with_reducible assumption | with_reducible refine Bl.drew_ ?_ | with_reducible refine Bl.drewN_ ?_ _ | with_reducible refine Bl.alloc_ ?_ _ | with_reducible refine Bl.trans_ ?_ (by assumption) | with_reducible refine Bl.trans_ ?_ (And.left (by assumption)))))).mono ?_
  rintro e w2 ⟨q, f', hq, rfl, hb2⟩
  obtain ⟨hpq, hql, hcut⟩ := from_cut HO.out HP.out hq
  have CUT := Lib.hid hcut
  have hb2' := hb1.trans_ hb2
  clear hq hcut q0 q1
  obtain ⟨q0, q1⟩ := box2 hb2'
  have hqn : q ≤ n := by have := HN.out; omega
  clear hql
  have hz0 : (0 : Int) ≤ (p : Int) := by omega
  have hz1 : (p : Int) ≤ (q : Int) := by omega
  have hz2 : (q : Int) ≤ (c : Int) := by omega
  have HL := Lib.hid (show q - p = (fromL v L).length from by rw [← CUT.out, List.length_drop, List.length_take]; have := HN.out; omega)
  have hbw : Bl w w2 := (Bl.alloc_ (Bl.refl w) _).trans_ hb2'
  go_wp2_with fail
  · go_ret
    exact ⟨A, 0, ret_slice HL.out, by rw [← HL.out]; omega, fun h0 => absurd h0 (by rw [← HL.out]; omega), rfl, hbw⟩
  · go_ret
    refine ⟨_, c - p, ret_slice HL.out, by rw [← HL.out]; omega, fun h0 => ?_, by cases A <;> simp [blockOf, block_of_add], hbw⟩
    rw [← HL.out] at h0
    obtain ⟨g1, o1, rfl, hg1, hc1⟩ := K1.out (by have := HN.out; omega)
    refine ⟨g1, o1 + p * 3, by simp [Addr.add], hg1, fun k hk => ?_⟩
    have hk' : k < q - p := by rw [HL.out]; exact hk
    have e : (fromL v L)[k] = L[p + k]'(by have := HN.out; omega) := by
      simp only [← CUT.out, List.getElem_drop, List.getElem_take]
    obtain ⟨c1, c2, c3⟩ := hc1 (p + k) (by have := HN.out; omega)
    have hb := (bcell hbw).1
    rw [e, hb _ _ hg1, hb _ _ hg1, hb _ _ hg1, show o1 + p * 3 + k * 3 = o1 + (p + k) * 3 from by omega]
    exact ⟨c1, c2, c3⟩

end Go.Proofs.Ytffjpfanmnkmgaa

set_option linter.unusedSimpArgs false
set_option linter.unusedVariables false
namespace Go.Proofs.Ytffjpfanmnkmgaa

/-- An item as two numbers: key and id. -/
abbrev It := Int × Int
def lessI (a b : It) : Bool := decide (a.1 < b.1 ∨ a.1 = b.1 ∧ a.2 < b.2)
theorem lessI_trans {a b c : It} (h : lessI a b = true) (k : lessI b c = true) : lessI a c = true := by
  simp only [lessI, decide_eq_true_eq] at *
  omega
theorem lessI_asymm {a b : It} (h : lessI a b = true) : lessI b a = false := by
  simp only [lessI, decide_eq_true_eq, decide_eq_false_iff_not] at *
  omega
theorem lessI_neg_trans {a b c : It} (h : lessI a b = false) (k : lessI b c = false) : lessI a c = false := by
  simp only [lessI, decide_eq_false_iff_not] at *
  omega
theorem lessI_irrefl (a : It) : lessI a a = false := by
  simp [lessI]

def atI (L : List It) (k : Nat) : It := L.getD k (0, 0)
theorem atI_eq {L : List It} {k : Nat} (h : k < L.length) : atI L k = L[k] := by simp [atI, h]
theorem atI_set {L : List It} {i k : Nat} {x : It} (hi : i < L.length) : atI (L.set i x) k = if k = i then x else atI L k := by
  unfold atI
  rw [List.getD_eq_getElem?_getD, List.getD_eq_getElem?_getD, List.getElem?_set]
  by_cases h : i = k
  · subst h; simp [hi]
  · rw [if_neg h, if_neg (fun e => h e.symm)]

/-- Two items change places. -/
def swapI (L : List It) (i j : Nat) : List It := (L.set i (atI L j)).set j (atI L i)
theorem swapI_len (L : List It) (i j : Nat) : (swapI L i j).length = L.length := by simp [swapI]

/-- Up, as long as it is less than the one above. -/
def upI (L : List It) (k : Nat) : List It :=
  if h : 0 < k ∧ lessI (atI L k) (atI L ((k - 1) / 2)) = true then upI (swapI L k ((k - 1) / 2)) ((k - 1) / 2) else L
termination_by k
decreasing_by omega
theorem upI_step {L : List It} {k : Nat} (h0 : 0 < k) (h : lessI (atI L k) (atI L ((k - 1) / 2)) = true) : upI L k = upI (swapI L k ((k - 1) / 2)) ((k - 1) / 2) := by
  rw [upI]; simp [h0, h]
theorem upI_zero (L : List It) : upI L 0 = L := by rw [upI]; simp
theorem upI_stop {L : List It} {k : Nat} (h : lessI (atI L k) (atI L ((k - 1) / 2)) = false) : upI L k = L := by
  rw [upI]; simp [h]
theorem upI_len (L : List It) (k : Nat) : (upI L k).length = L.length := by
  induction k using Nat.strongRecOn generalizing L with
  | ind k ih =>
    rw [upI]
    split
    · rename_i h
      rw [ih _ (by omega), swapI_len]
    · rfl

/-- The least so far of a place and the first i below it. -/
def bestI (L : List It) (p : Nat) : Nat → Nat
  | 0 => p
  | i + 1 => if 2 * p + 1 + i < L.length ∧ lessI (atI L (2 * p + 1 + i)) (atI L (bestI L p i)) = true then 2 * p + 1 + i else bestI L p i
def pickI (L : List It) (p : Nat) : Nat := bestI L p 2
theorem bestI_lt {L : List It} {p : Nat} (hp : p < L.length) : ∀ i, bestI L p i < L.length
  | 0 => hp
  | i + 1 => by
    unfold bestI
    split
    · rename_i h; exact h.1
    · exact bestI_lt hp i
theorem bestI_ge {L : List It} {p : Nat} : ∀ i, p ≤ bestI L p i
  | 0 => Nat.le_refl _
  | i + 1 => by
    unfold bestI
    split
    · omega
    · exact bestI_ge i
theorem bestI_yes {L : List It} {p i : Nat} (h : 2 * p + 1 + i < L.length) (k : lessI (atI L (2 * p + 1 + i)) (atI L (bestI L p i)) = true) : bestI L p (i + 1) = 2 * p + 1 + i := by
  rw [bestI, if_pos ⟨h, k⟩]
theorem bestI_no {L : List It} {p i : Nat} (k : lessI (atI L (2 * p + 1 + i)) (atI L (bestI L p i)) = false) : bestI L p (i + 1) = bestI L p i := by
  rw [bestI, if_neg (by rw [k]; simp)]
theorem bestI_out {L : List It} {p i : Nat} (h : L.length ≤ 2 * p + 1 + i) : bestI L p (i + 1) = bestI L p i := by
  rw [bestI, if_neg (by omega)]
theorem pickI_out {L : List It} {p i : Nat} (hi : i ≤ 2) (h : i = 2 ∨ L.length ≤ 2 * p + 1 + i) : pickI L p = bestI L p i := by
  rcases h with rfl | h
  · rfl
  · unfold pickI
    match i, hi, h with
    | 0, _, h => rw [bestI_out (by omega), bestI_out (by omega)]
    | 1, _, h => rw [bestI_out (by omega)]
    | 2, _, h => rfl

theorem pickI_ge (L : List It) (p : Nat) : p ≤ pickI L p := bestI_ge 2
theorem pickI_lt {L : List It} {p : Nat} (hp : p < L.length) : pickI L p < L.length := bestI_lt hp 2
theorem pickI_none {L : List It} {p : Nat} (hp : L.length ≤ p) : pickI L p = p := by
  rw [pickI_out (i := 0) (by omega) (.inr (by omega))]; rfl
theorem pickI_lt' {L : List It} {p : Nat} (h : pickI L p ≠ p) : pickI L p < L.length := by
  rcases Nat.lt_or_ge p L.length with hp | hp
  · exact pickI_lt hp
  · exact absurd (pickI_none hp) h

/-- Down, by way of the lesser of the two below. -/
def downI (L : List It) (p : Nat) : List It :=
  if h : pickI L p ≠ p then downI (swapI L p (pickI L p)) (pickI L p) else L
termination_by L.length - p
decreasing_by
  have := pickI_ge L p
  have := pickI_lt' h
  rw [swapI_len]
  omega
theorem downI_step {L : List It} {p : Nat} (h : pickI L p ≠ p) : downI L p = downI (swapI L p (pickI L p)) (pickI L p) := by
  rw [downI]; simp [h]
theorem downI_stop {L : List It} {p : Nat} (h : pickI L p = p) : downI L p = L := by
  rw [downI]; simp [h]
theorem downI_len_aux (n : Nat) : ∀ (L : List It) (p : Nat), L.length - p = n → (downI L p).length = L.length := by
  induction n using Nat.strongRecOn with
  | ind n ih =>
    intro L p hn
    by_cases h : pickI L p = p
    · rw [downI_stop h]
    · rw [downI_step h]
      have h1 := pickI_ge L p
      have h2 := pickI_lt' h
      rw [ih (L.length - pickI L p) (by omega) _ _ (by rw [swapI_len]), swapI_len]
theorem downI_len (L : List It) (p : Nat) : (downI L p).length = L.length := downI_len_aux _ L p rfl





end Go.Proofs.Ytffjpfanmnkmgaa

set_option linter.unusedSimpArgs false
set_option linter.unusedVariables false
namespace Go.Proofs.Ytffjpfanmnkmgaa
open Go.RowKit

/-- The cells of items, one behind the other. -/
def cs2 : List It → List Value
  | [] => []
  | a :: l => .int .i64 a.1 :: .int .i64 a.2 :: cs2 l
theorem cs2_append : ∀ (l m : List It), cs2 (l ++ m) = cs2 l ++ cs2 m
  | [], _ => rfl
  | a :: l, m => by simp [cs2, cs2_append l m]
theorem cs2_length : ∀ (l : List It), (cs2 l).length = l.length * 2
  | [] => rfl
  | a :: l => by simp [cs2, cs2_length l]; omega
theorem cs2_at : ∀ (l : List It) (k : Nat) (h : k < l.length), (cs2 l)[k * 2]? = some (.int .i64 l[k].1) ∧ (cs2 l)[k * 2 + 1]? = some (.int .i64 l[k].2)
  | a :: l, 0, _ => ⟨rfl, rfl⟩
  | a :: l, k + 1, h => by
    have h' : k < l.length := by simpa using h
    obtain ⟨x, y⟩ := cs2_at l k h'
    have e0 : (k + 1) * 2 = k * 2 + 2 := by omega
    refine ⟨?_, ?_⟩
    · rw [e0]; simpa [cs2] using x
    · rw [e0, show k * 2 + 2 + 1 = (k * 2 + 1) + 2 from by omega]; simpa [cs2] using y
theorem cs2_set : ∀ (l : List It) (k : Nat) (x : It), cs2 (l.set k x) = ((cs2 l).set (k * 2) (.int .i64 x.1)).set (k * 2 + 1) (.int .i64 x.2)
  | [], _, _ => by simp [cs2]
  | a :: l, 0, x => by simp [cs2]
  | a :: l, k + 1, x => by
    have e0 : (k + 1) * 2 = k * 2 + 2 := by omega
    rw [e0, show k * 2 + 2 + 1 = (k * 2 + 1) + 2 from by omega]
    simp [cs2, cs2_set l k x]
theorem cs2_take : ∀ (l : List It) (k : Nat), cs2 (l.take k) = (cs2 l).take (k * 2)
  | [], _ => by simp [cs2]
  | a :: l, 0 => by simp [cs2]
  | a :: l, k + 1 => by
    rw [show (k + 1) * 2 = k * 2 + 2 from by omega]
    simp [cs2, cs2_take l k]

/-- The slice at A reads as the items L, below block B. -/
def ItemsAt (w : World) (B : Nat) (A : Option Addr) (L : List It) : Prop := CellsAt w B A (cs2 L)
theorem ItemsAt.cell {w : World} {B : Nat} {A : Option Addr} {L : List It} (h : ItemsAt w B A L) (h0 : 0 < L.length) :
    ∃ g off, A = some ⟨g, off, none⟩ ∧ g < B ∧ ∀ k (hk : k < L.length), w.cell? ⟨g, off + k * 2, none⟩ = some (.int .i64 L[k].1) ∧ w.cell? ⟨g, off + k * 2 + 1, none⟩ = some (.int .i64 L[k].2) := by
  obtain ⟨g, off, e, hg, hc⟩ := h (by rw [cs2_length]; omega)
  refine ⟨g, off, e, hg, fun k hk => ?_⟩
  obtain ⟨x, y⟩ := cs2_at L k hk
  have hl := cs2_length L
  refine ⟨?_, ?_⟩
  · rw [hc (k * 2) (by omega), ← x, List.getElem?_eq_getElem]
  · rw [Nat.add_assoc, hc (k * 2 + 1) (by omega), ← y, List.getElem?_eq_getElem]
theorem ItemsAt.bl {w w' : World} {A : Option Addr} {L : List It} (h : ItemsAt w w.heap.size A L) (hb : Bl w w') : ItemsAt w' w'.heap.size A L := CellsAt.bl h hb
theorem ItemsAt.bl' {w w' : World} {B : Nat} {A : Option Addr} {L : List It} (h : ItemsAt w B A L) (hB : B ≤ w.heap.size) (hb : Bl w w') : ItemsAt w' B A L := CellsAt.bl' h hB hb
theorem ItemsAt.more {w : World} {B B' : Nat} {A : Option Addr} {L : List It} (h : ItemsAt w B A L) (hB : B ≤ B') : ItemsAt w B' A L := CellsAt.more h hB
theorem ItemsAt.grown_ {w w' : World} {B : Nat} {A : Option Addr} {L : List It} {row : Option Nat} (h : ItemsAt w B A L) (hB : B ≤ w.heap.size) (hg : w.grownBy w' row)
    (hne : ∀ g, blockOf A = some g → g < B → some g ≠ row) : ItemsAt w' B A L := CellsAt.grown_ h hB hg hne

/-- The value v owns the items L, in blocks from B on. -/
def OwnI (w : World) (B : Nat) (v : Value) (L : List It) : Prop := Owns 82 2 w B v L.length (cs2 L)

theorem infoItem : (Try.prog.info? 82).map (fun i => (i.zero, i.size, i.bytes)) = some (some (.agg #[.int .i64 0, .int .i64 0]), 2, 16) := by kernel_rfl





end Go.Proofs.Ytffjpfanmnkmgaa

set_option linter.unusedSimpArgs false
set_option linter.unusedVariables false
namespace Go.Proofs.Ytffjpfanmnkmgaa
open Go.RowKit



/-- A row whose first k items are those of L. -/
def Filled (w : World) (g n k : Nat) (L : List It) : Prop := ∃ cur : Array Value, w.heap[g]? = some (.cells cur 82 (0, 0)) ∧ cur.size = n * 2 ∧ ∀ j (h : j < k) (h' : j < L.length), cur[j * 2]? = some (.int .i64 L[j].1) ∧ cur[j * 2 + 1]? = some (.int .i64 L[j].2)
theorem Filled.cells {w : World} {g n k : Nat} {L : List It} (h : Filled w g n k L) : (∀ o, w.frozen? ⟨g, o, none⟩ = false) ∧ g < w.heap.size ∧ ∀ o, o < n * 2 → ∃ v, w.cell? ⟨g, o, none⟩ = some v := by
  obtain ⟨cur, hb, hs, _⟩ := h
  refine ⟨fun o => by simp [World.frozen?, hb], (Array.getElem?_eq_some_iff.1 hb).1, fun o ho => ⟨cur[o]'(by omega), ?_⟩⟩
  simp [World.cell?, hb, show o < cur.size from by omega]
theorem Filled.step {w : World} {g n k : Nat} {L : List It} (h : Filled w g n k L) (hk : k < n) (hl : k < L.length) {x y : Int} (hx : L[k].1 = x) (hy : L[k].2 = y) :
    Filled ((w.setCell ⟨g, k * 2, none⟩ (.int .i64 x)).setCell ⟨g, k * 2 + 1, none⟩ (.int .i64 y)) g n (k + 1) L := by
  obtain ⟨cur, hb, hs, hf⟩ := h
  refine ⟨(cur.setIfInBounds (k * 2) (.int .i64 x)).setIfInBounds (k * 2 + 1) (.int .i64 y), heap_setCell_same _ g _ _ _ _ (heap_setCell_same w g _ cur _ _ hb), by simpa using hs, fun j hj hj' => ?_⟩
  rcases Nat.lt_or_ge j k with h | h
  · obtain ⟨a, b⟩ := hf j h hj'
    refine ⟨?_, ?_⟩
    · rw [Array.getElem?_setIfInBounds_ne (by omega), Array.getElem?_setIfInBounds_ne (by omega)]; exact a
    · rw [Array.getElem?_setIfInBounds_ne (by omega), Array.getElem?_setIfInBounds_ne (by omega)]; exact b
  · obtain rfl : j = k := by omega
    refine ⟨?_, ?_⟩
    · rw [Array.getElem?_setIfInBounds_ne (by omega), Array.getElem?_setIfInBounds_self_of_lt (by omega), hx]
    · rw [Array.getElem?_setIfInBounds_self_of_lt (by simp; omega), hy]
theorem list_ext2 {c : List Value} {L : List It} (hs : c.length = L.length * 2) (h : ∀ j (h' : j < L.length), c[j * 2]? = some (.int .i64 L[j].1) ∧ c[j * 2 + 1]? = some (.int .i64 L[j].2)) : c = cs2 L := by
  apply List.ext_getElem?
  intro i
  rcases Nat.lt_or_ge i (L.length * 2) with hi | hi
  · have hj : i / 2 < L.length := by omega
    obtain ⟨a, b⟩ := h (i / 2) hj
    obtain ⟨x, y⟩ := cs2_at L (i / 2) hj
    rcases Nat.mod_two_eq_zero_or_one i with hm | hm
    · rw [show i = i / 2 * 2 from by omega, a, x]
    · rw [show i = i / 2 * 2 + 1 from by omega, b, y]
  · rw [List.getElem?_eq_none (by omega), List.getElem?_eq_none (by rw [cs2_length]; omega)]
theorem Filled.own {w : World} {B g n : Nat} {L : List It} (h : Filled w g n n L) (hn : n = L.length) (hm : n ≤ 1048576) (hB : B ≤ g) : OwnI w B (.slice (some ⟨g, 0, none⟩) n n) L := by
  obtain ⟨cur, hb, hs, hf⟩ := h
  subst hn
  refine ⟨by rw [cs2_length], .inr ⟨g, L.length, cur, rfl, hB, hb, Nat.le_refl _, by unfold maxLen; omega, hs, ?_⟩⟩
  rw [List.take_of_length_le (by simp; omega)]
  exact list_ext2 (by simpa using hs) fun j hj => by
    obtain ⟨a, b⟩ := hf j hj hj
    exact ⟨by simpa using a, by simpa using b⟩




end Go.Proofs.Ytffjpfanmnkmgaa

set_option linter.unusedSimpArgs false
set_option linter.unusedVariables false
namespace Go.Proofs.Ytffjpfanmnkmgaa
open Go.RowKit

theorem less_key {a b c d : Int} (h : ¬ a = c) : lessI (a, b) (c, d) = decide (a < c) := by
  simp [lessI, h]
theorem less_id {a b d : Int} : lessI (a, b) (a, d) = decide (b < d) := by
  simp [lessI]

set_option maxHeartbeats 400000 in
theorem itemLess_any (a b c d : Int) (w : World) :
    Calls Try.prog 139 #[.agg #[.int .i64 a, .int .i64 b], .agg #[.int .i64 c, .int .i64 d]] w fun e w' => e = .returned (.bool (lessI (a, b) (c, d))) ∧ Bl w w' := by
  by_cases h : a = c
  · subst h
    have h' : (a != a) = false := by simp
    go_enter Try.func139, Try.ntmps139
    go_wp2
    go_ret
    exact ⟨ret_bool less_id.symm, (by repeat' (first | exact Bl.refl _ | with_reducible assumption | with_reducible refine Bl.drew_ ?_ | with_reducible refine Bl.drewN_ ?_ _ | with_reducible refine Bl.alloc_ ?_ _ | with_reducible refine Bl.trans_ ?_ (by assumption) | with_reducible refine Bl.trans_ ?_ (And.left (by assumption))))⟩
  · have h' : (a != c) = true := by simpa using h
    go_enter Try.func139, Try.ntmps139
    go_wp2
    go_ret
    exact ⟨ret_bool (less_key h).symm, (by repeat' (first | exact Bl.refl _ | with_reducible assumption | with_reducible refine Bl.drew_ ?_ | with_reducible refine Bl.drewN_ ?_ _ | with_reducible refine Bl.alloc_ ?_ _ | with_reducible refine Bl.trans_ ?_ (by assumption) | with_reducible refine Bl.trans_ ?_ (And.left (by assumption))))⟩


set_option maxHeartbeats 400000 in
theorem above_any (k : Nat) (w : World) (hk : 0 < k) (hm : k ≤ 1048576) :
    Calls Try.prog 142 #[.int .i64 (k : Int)] w fun e w' => e = .returned (.int .i64 (((k - 1) / 2 : Nat) : Int)) ∧ w = w' := by
  have h0 : (0 : Int) ≤ (k : Int) - 1 := by omega
  go_enter Try.func142, Try.ntmps142
  go_wp2
  go_ret
  exact ⟨ret_int (by omega), rfl⟩

/-- A heap of the code's own: its list, and less. -/
def HBox (w : World) (hb : Nat) (v : Value) : Prop := w.cell? ⟨hb, 0, none⟩ = some v ∧ w.cell? ⟨hb, 1, none⟩ = some (.func (.func 139) #[] #[]) ∧ w.frozen? ⟨hb, 0, none⟩ = false
theorem HBox.bl {w w' : World} {hb : Nat} {v : Value} (h : HBox w hb v) (hlt : hb < w.heap.size) (k : Bl w w') : HBox w' hb v := by
  obtain ⟨a, b⟩ := bcell k
  exact ⟨(a _ _ hlt).trans h.1, (a _ _ hlt).trans h.2.1, (b _ _ hlt).trans h.2.2⟩
theorem HBox.lt {w : World} {hb : Nat} {v : Value} (h : HBox w hb v) : hb < w.heap.size := World.block_lt_of_cell? _ _ h.1
theorem HBox.grown_ {w w' : World} {hb : Nat} {v : Value} {row : Option Nat} (h : HBox w hb v) (k : w.grownBy w' row) (hne : some hb ≠ row) : HBox w' hb v := by
  have e := k.block hb h.lt hne
  exact ⟨(World.cell?_of_block (a := ⟨hb, 0, none⟩) e).trans h.1, (World.cell?_of_block (a := ⟨hb, 1, none⟩) e).trans h.2.1, (World.frozen?_of_block (a := ⟨hb, 0, none⟩) e).trans h.2.2⟩

/-- The row at block g owns the items L. -/
def RowI (w : World) (g n c : Nat) (L : List It) : Prop := OwnI w g (.slice (some ⟨g, 0, none⟩) n c) L ∧ n = L.length
theorem RowI.cells {w : World} {g n c : Nat} {L : List It} (h : RowI w g n c L) : (∀ o, w.frozen? ⟨g, o, none⟩ = false) ∧ g < w.heap.size ∧
    ∀ k (hk : k < L.length), w.cell? ⟨g, k * 2, none⟩ = some (.int .i64 (atI L k).1) ∧ w.cell? ⟨g, k * 2 + 1, none⟩ = some (.int .i64 (atI L k).2) := by
  obtain ⟨h, rfl⟩ := h
  have h' : w.ownsRow g 82 2 (.slice (some ⟨g, 0, none⟩) L.length c) L.length (cs2 L) := h
  refine ⟨fun o => World.ownsRow.frozenAt h' o, ?_, fun k hk => ?_⟩
  · exact (World.ownsRow.lt h' g rfl).2
  · obtain ⟨x, y⟩ := cs2_at L k hk
    rw [atI_eq hk]
    exact ⟨(World.ownsRow.cellAt h' _ (by omega)).trans x, (World.ownsRow.cellAt h' _ (by omega)).trans y⟩
theorem RowI.bl {w w' : World} {g n c : Nat} {L : List It} (h : RowI w g n c L) (k : Bl w w') : RowI w' g n c L := ⟨Owns.bl h.1 k, h.2⟩
theorem RowI.set {w : World} {g n c : Nat} {L : List It} (h : RowI w g n c L) (k : Nat) (x y : Int) :
    RowI ((w.setCell ⟨g, k * 2, none⟩ (.int .i64 x)).setCell ⟨g, k * 2 + 1, none⟩ (.int .i64 y)) g n c (L.set k (x, y)) ∧
      w.grownBy ((w.setCell ⟨g, k * 2, none⟩ (.int .i64 x)).setCell ⟨g, k * 2 + 1, none⟩ (.int .i64 y)) (some g) := by
  obtain ⟨h, rfl⟩ := h
  have h1 := Owns.stored (show Owns 82 2 w g (.slice (some ⟨g, 0, none⟩) L.length c) L.length (cs2 L) from h) (k * 2) (.int .i64 x)
  have h2 := Owns.stored h1.1 (k * 2 + 1) (.int .i64 y)
  refine ⟨⟨?_, by simp⟩, grown_trans h1.2 h2.2⟩
  unfold OwnI
  rw [cs2_set, List.length_set]
  exact h2.1

theorem swap_world {w : World} {g n c i j : Nat} {L : List It} (h : RowI w g n c L) :
    RowI ((((w.setCell ⟨g, i * 2, none⟩ (.int .i64 (atI L j).1)).setCell ⟨g, i * 2 + 1, none⟩ (.int .i64 (atI L j).2)).setCell ⟨g, j * 2, none⟩ (.int .i64 (atI L i).1)).setCell ⟨g, j * 2 + 1, none⟩ (.int .i64 (atI L i).2)) g n c (swapI L i j) ∧
      w.grownBy ((((w.setCell ⟨g, i * 2, none⟩ (.int .i64 (atI L j).1)).setCell ⟨g, i * 2 + 1, none⟩ (.int .i64 (atI L j).2)).setCell ⟨g, j * 2, none⟩ (.int .i64 (atI L i).1)).setCell ⟨g, j * 2 + 1, none⟩ (.int .i64 (atI L i).2)) (some g) := by
  obtain ⟨a, b⟩ := h.set i (atI L j).1 (atI L j).2
  obtain ⟨a', b'⟩ := a.set j (atI L i).1 (atI L i).2
  exact ⟨a', grown_trans b b'⟩

/-- What an exchange, or many, leave: the items are now these; nothing else has turned. -/
def RowTo (g n c : Nat) (L : List It) (w : World) (e : Ending) (w' : World) : Prop := e = .returned (.tuple #[]) ∧ RowI w' g n c L ∧ w.grownBy w' (some g)

set_option maxHeartbeats 1000000 in
theorem swap_any (hb g n c i j : Nat) (L : List It) (w : World) (hm : n ≤ 1048576) (hR : RowI w g n c L) (hH : HBox w hb (.slice (some ⟨g, 0, none⟩) n c)) (hi : i < n) (hj : j < n) (hij : i ≠ j) :
    Calls Try.prog 143 #[.pointer (some ⟨hb, 0, none⟩), .int .i64 (i : Int), .int .i64 (j : Int)] w (RowTo g n c (swapI L i j) w) := by
  have R := Lib.hid hR
  obtain ⟨hfz, hg, hc⟩ := hR.cells
  obtain ⟨h0, h1, h2⟩ := hH
  have hn := hR.2
  obtain ⟨a1, a2⟩ := hc i (by omega)
  obtain ⟨b1, b2⟩ := hc j (by omega)
  have f1 := hfz (i * 2)
  have f2 := hfz (i * 2 + 1)
  have f3 := hfz (j * 2)
  have f4 := hfz (j * 2 + 1)
  clear hfz hc hR h2 hn
  generalize hx : (atI L i).1 = x at a1
  generalize hy : (atI L i).2 = y at a2
  generalize hx' : (atI L j).1 = x' at b1
  generalize hy' : (atI L j).2 = y' at b2
  have HX := Lib.hid hx
  have HY := Lib.hid hy
  have HX' := Lib.hid hx'
  have HY' := Lib.hid hy'
  clear hx hy hx' hy'
  have i0 : (i : Int) < (n : Int) := by omega
  have j0 : (j : Int) < (n : Int) := by omega
  go_enter Try.func143, Try.ntmps143
  go_wp2
  go_region
  go_end0
  rw [← HX.out, ← HY.out, ← HX'.out, ← HY'.out]
  obtain ⟨u, v⟩ := swap_world (i := i) (j := j) R.out
  exact ⟨rfl, u.bl (Bl.refl _).drew_, grown_bl v (Bl.refl _).drew_⟩


end Go.Proofs.Ytffjpfanmnkmgaa
