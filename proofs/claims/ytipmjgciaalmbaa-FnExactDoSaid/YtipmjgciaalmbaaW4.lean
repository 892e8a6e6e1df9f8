/-
  What is proved here: arrays of 24 numbers, in blocks of their own; a whole array is loaded and stored by laws. No conditions beyond those that each theorem states.
-/
import Derived.Test.YtipmjgciaalmbaaW3
import Derived.Deep.MidRow
import Derived.Laws.Rows
set_option linter.unusedSimpArgs false
set_option linter.unusedVariables false
namespace Go.Proofs.Ytipmjgciaalmbaa
open Go.RowKit

theorem wpListIn_load_mid {F : Fence} {n : Nat} {P : Program} {w : World} {ops : Array Oper} {rest : List Oper} {op : Oper} {a : Act} {Q : Exit → Act → World → Prop} (hgd : op.guard = none) (ty : TypeId) (x : Operand) (ho : op.op = .load ty x)
    (b o : Nat) (hx : a.eval x = .pointer (some ⟨b, o, none⟩)) (cs : List Value) (d : TypeDesc) (hc : w.rangeAt b o cs)
    (hu : P.underlying ty = some d) (hd : d.isRow = true) (hi : (P.info? ty).map (·.size) = some cs.length)
    (h : wpListIn F n P ops Q rest (a.put op.dst (.agg cs.toArray)) w) : wpListIn F n P ops Q (op :: rest) a w := by
  refine wpListIn_plain hgd fun K hK' => ?_
  unfold Oper.wpIn
  refine ⟨?_, ?_⟩
  · simp [Oper.about, ho]
  · rw [Oper.semAt_plain F _ _ (by rw [ho]; intro c hc'; cases hc')]
    unfold execOp
    simp only [ho, hx, Instr.loadAt, Instr.sureAddr, Sem.run_bind, Sem.run_pure, Result.andThen_ok, run_loadVar_mid w b o ty cs d hc hu hd hi]
    exact hK' _ _ h
theorem wpListIn_store_mid {F : Fence} {n : Nat} {P : Program} {w : World} {ops : Array Oper} {rest : List Oper} {op : Oper} {a : Act} {Q : Exit → Act → World → Prop} (hgd : op.guard = none) (ty : TypeId) (x y : Operand) (ho : op.op = .store ty x y)
    (b o : Nat) (cells : Array Value) (hx : a.eval x = .pointer (some ⟨b, o, none⟩)) (hy : a.eval y = .agg cells)
    (ht : w.there b o cells.size) (hi : (P.info? ty).map (·.size) = some cells.size) (h1 : cells.all (·.oneCell') = true)
    (h : wpListIn F n P ops Q rest (a.put op.dst undef) (w.setCells b o cells.toList)) : wpListIn F n P ops Q (op :: rest) a w := by
  refine wpListIn_plain hgd fun K hK' => ?_
  unfold Oper.wpIn
  refine ⟨?_, ?_⟩
  · simp [Oper.about, ho]
  · rw [Oper.semAt_plain F _ _ (by rw [ho]; intro c hc'; cases hc')]
    unfold execOp
    simp only [ho, hx, hy, Instr.storeAt, Instr.sureAddr, Sem.run_bind, Sem.run_pure, Result.andThen_ok, run_storeVar_mid w b o ty cells ht hi h1]
    exact hK' _ _ h

/-- The cells of numbers. -/
def csI (V : List Int) : List Value := V.map (.int .i64)
theorem csI_at {V : List Int} {k : Nat} (h : k < (csI V).length) : (csI V)[k] = .int .i64 (V[k]'(by simpa [csI] using h)) := by simp [csI]
theorem csI_len (V : List Int) : (csI V).length = V.length := by simp [csI]
theorem csI_one (V : List Int) : (csI V).toArray.all (·.oneCell') = true := by
  refine all_oneCell_toArray fun v hv => ?_
  obtain ⟨x, _, rfl⟩ := List.mem_map.1 hv
  rfl

theorem csI_one' (V : List Int) : ∀ u ∈ csI V, u.oneCell' = true := fun v hv => by
  obtain ⟨x, _, rfl⟩ := List.mem_map.1 hv
  rfl

theorem Turn.cells {S : Nat → Prop} {w w' : World} (h : Turn S w w') {g : Nat} (hg : g < w.heap.size) (hS : ¬ S g) (o : Nat) : w'.cell? ⟨g, o, none⟩ = w.cell? ⟨g, o, none⟩ ∧ w'.frozen? ⟨g, o, none⟩ = w.frozen? ⟨g, o, none⟩ :=
  ⟨World.cell?_of_block (h.block g hg hS), World.frozen?_of_block (h.block g hg hS)⟩

/-- An array of 24 numbers. -/
structure NumsAt (w : World) (b : Nat) (E : List Int) : Prop where
  lt : b < w.heap.size
  len : E.length = 24
  cell : ∀ i (h : i < E.length), w.cell? ⟨b, i, none⟩ = some (.int .i64 E[i])
  free : ∀ i, i < 24 → w.frozen? ⟨b, i, none⟩ = false
theorem NumsAt.turn {w w' : World} {b : Nat} {E : List Int} (h : NumsAt w b E) {S : Nat → Prop} (k : Turn S w w') (hS : ¬ S b) : NumsAt w' b E :=
  ⟨Nat.lt_of_lt_of_le h.lt k.size, h.len, fun i hi => (k.cells h.lt hS i).1.trans (h.cell i hi), fun i hi => (k.cells h.lt hS i).2.trans (h.free i hi)⟩
theorem NumsAt.bl {w w' : World} {b : Nat} {E : List Int} (h : NumsAt w b E) (k : Bl w w') : NumsAt w' b E := h.turn (Turn.of_bl (S := fun _ => False) k) id
theorem NumsAt.set {w : World} {b : Nat} {E : List Int} (h : NumsAt w b E) {u : Nat} (x : Int) : NumsAt (w.setCell ⟨b, u, none⟩ (.int .i64 x)) b (E.set u x) := by
  refine ⟨by simpa using h.lt, by simpa using h.len, fun i hi => ?_, fun i hi => by rw [World.frozen?_setCell]; exact h.free i hi⟩
  rw [List.length_set] at hi
  rw [List.getElem_set]
  by_cases e : u = i
  · subst e
    rw [World.cell?_setCell_same' _ _ _ (by rw [h.cell u hi]; rfl), if_pos rfl]
  · rw [World.cell?_setCell_other _ _ _ _ (by intro e'; injection e' with _ e2; exact e e2), h.cell i hi, if_neg e]
theorem NumsAt.range {w : World} {b : Nat} {E : List Int} (h : NumsAt w b E) : w.rangeAt b 0 (csI E) := fun j v hv => by
  obtain ⟨hj, rfl⟩ := List.getElem?_eq_some_iff.1 hv
  rw [csI_len] at hj
  rw [Nat.zero_add, csI_at]
  exact h.cell j hj
theorem setCells_size (b : Nat) : ∀ (vs : List Value) (o : Nat) (w : World), (w.setCells b o vs).heap.size = w.heap.size
  | [], _, _ => rfl
  | v :: r, o, w => by
    rw [World.setCells, setCells_size b r]
    simp
theorem Bl.setCells_ {a : World} (b : Nat) (hb : a.heap.size ≤ b) : ∀ (vs : List Value) (o : Nat) (w : World), Bl a w → Bl a (w.setCells b o vs)
  | [], _, _, h => h
  | v :: r, o, w, h => by
    rw [World.setCells]
    exact Bl.setCells_ b hb r (o + 1) _ (h.set_ hb v)
theorem Turn.setCells_ {S : Nat → Prop} {a : World} (b : Nat) (hb : S b) : ∀ (vs : List Value) (o : Nat) (w : World), Turn S a w → Turn S a (w.setCells b o vs)
  | [], _, _, h => h
  | v :: r, o, w, h => by
    rw [World.setCells]
    exact Turn.setCells_ b hb r (o + 1) _ (Turn.set (p := ⟨b, o, none⟩) h (.inl hb) v)
/-- 24 numbers that are stored over 24 cells lie there. -/
theorem NumsAt.stored {w : World} {b : Nat} {E : List Int} (hE : E.length = 24) (hl : b < w.heap.size) (ht : w.there b 0 24) : NumsAt (w.setCells b 0 (csI E)) b E := by
  have hr := World.rangeAt_setCells_same w b 0 (csI E) (by rw [csI_len, hE]; exact ht)
  refine ⟨by rw [setCells_size]; exact hl, hE, fun i hi => ?_, fun i hi => ?_⟩
  · have := hr i (.int .i64 E[i]) (by rw [List.getElem?_eq_getElem (by rw [csI_len]; exact hi), csI_at])
    rwa [Nat.zero_add] at this
  · rw [World.frozen?_setCells]
    have := (ht i hi).2
    rwa [Nat.zero_add] at this
theorem there_of_cells {w : World} {b : Nat} (h : ∀ i, i < 24 → (w.cell? ⟨b, i, none⟩).isSome = true ∧ w.frozen? ⟨b, i, none⟩ = false) : w.there b 0 24 := fun j hj => by
  rw [Nat.zero_add]
  exact h j hj

theorem results_cell_mid {P : Program} {fn : Func} {p : Tmp} {ty : TypeId} (h : fn.results = #[.cell p ty]) (tmps : Array Value) (w : World) (b : Nat) (cs : List Value) (d : TypeDesc)
    (hp : tmps.getD p undef = .pointer (some ⟨b, 0, none⟩)) (hc : w.rangeAt b 0 cs)
    (hu : P.underlying ty = some d) (hd : d.isRow = true) (hi : (P.info? ty).map (·.size) = some cs.length) :
    (results fn tmps).run P w = .ok (.agg cs.toArray) w := by
  have hp' : tmps[p]?.getD undef = .pointer (some ⟨b, 0, none⟩) := by simpa using hp
  simp [results, h, hp', asAddr, run_loadVar_mid w b 0 ty cs d hc hu hd hi]

end Go.Proofs.Ytipmjgciaalmbaa
