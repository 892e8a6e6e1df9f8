/-
  What is proved here: cells that go over from one row to another, rows that are cleared, files that are put in place of others. No conditions beyond those that each theorem states.
-/
import Derived.Test.YtipmjgciaalmbaaDKA
import Derived.Laws.CopyOwn
import Derived.Lib.SliceRun
set_option linter.unusedSimpArgs false
set_option linter.unusedVariables false
namespace Go.Proofs.Ytipmjgciaalmbaa
open Go.RowKit

section
variable {P : Program}
/-- What a copy of whole elements leaves: the cells cs from cell o on. -/
theorem run_copy_wide (w : World) (dT sT ty elem : TypeId) (s g o dLen dCap : Nat) (a : Addr) (sLen sCap : Nat) (cur : Array Value) (t : TypeId) (cs : List Value)
    (hu : P.underlying dT = some (.slice elem)) (hs : (P.info? elem).map (·.size) = some s) (hg : w.heap[g]? = some (.cells cur t (0, 0))) (hn : cs.length = Nat.min sLen dLen * s)
    (hsrc : ∀ j v, cs[j]? = some v → w.cell? (a.add j) = some v) (hfit : o + cs.length ≤ cur.size) (h1 : ∀ v ∈ cs, v.oneCell' = true) :
    (Builtin.copy_ #[dT, sT] ty #[.slice (some ⟨g, o, none⟩) dLen dCap, .slice (some a) sLen sCap]).run P w =
      .ok (goInt (Nat.min sLen dLen)) (w.setRow g (splice cur.toList o cs).toArray) := by
  have hl := run_loadCells_list (P := P) w a cs hsrc
  have hst := run_storeCells_at P g o t cs 0 cur w hg (by simpa using hfit) h1
  rw [hn] at hl
  cases hq : P.info? elem with
  | none => simp [hq] at hs
  | some i =>
    have hi : i.size = s := by simpa [hq] using hs
    subst hi
    simp [Builtin.copy_, run_underlying hu, Builtin.lenOf, Builtin.firstCells, sizeOf, typeInfo, hq, hl, hst, splice]
/-- A row that is cleared. -/
theorem run_clear_wide (w : World) (n : Nat) (t e ty : TypeId) (z : Value) (ht : P.underlying t = some (.slice e)) (hv : ∀ w, (zeroValue e).run P w = .ok z w) (h1 : ∀ v ∈ (Builtin.zeroCells z.cells n).toList, v.oneCell' = true) (g o c : Nat) (hn : 0 < n)
    (cur : Array Value) (tt : TypeId) (hg : w.heap[g]? = some (.cells cur tt (0, 0))) (hfit : o + (Builtin.zeroCells z.cells n).size ≤ cur.size) :
    (Builtin.clear_ #[t] ty #[.slice (some ⟨g, o, none⟩) n c]).run P w = .ok (.tuple #[]) (w.setRow g (splice cur.toList o (Builtin.zeroCells z.cells n).toList).toArray) := by
  have hst := run_storeCells_at P g o tt (Builtin.zeroCells z.cells n).toList 0 cur w hg (by simpa using hfit) h1
  obtain ⟨m, rfl⟩ : ∃ m, n = m + 1 := ⟨n - 1, by omega⟩
  simp [Builtin.clear_, run_underlying ht, hv, hst, splice]
theorem wpList_copy_by (w : World) {ops : Array Oper} {rest : List Oper} {o : Oper} {a : Act} {Q : Exit → Act → World → Prop} (hgd : o.guard = none) (d s : Operand) (t t' : TypeId)
    (ho : o.op = .call { callee := .builtin .copy, args := #[d, s], argTypes := #[t, t'] }) (v u : Value) (hd : a.eval d = v) (hs : a.eval s = u) {v' : Value} {w' : World}
    (hr : (Builtin.copy_ #[t, t'] o.type #[v, u]).run P w = .ok v' w') (h : wpList P ops Q rest (a.put o.dst v') w') : wpList P ops Q (o :: rest) a w := by
  refine wpList_plain hgd fun K hK => ?_
  unfold Oper.wp execOp
  simp only [ho, resolve, invoke, builtin, Sem.run_bind, Sem.run_pure, Result.andThen_ok, List.map_toArray, List.map_cons, List.map_nil, hd, hs, hr]
  exact hK _ _ h
theorem step_copy_by {ops : Array Oper} {o : Oper} {a : Act} {w : World} {K : Act → World → Prop} {Q : Exit → Act → World → Prop} {E : Prop}
    (hg : o.guard = none) (d x : Operand) (dT sT : TypeId) (hop : o.op = Op.call { callee := Callee.builtin Builtin.copy, args := #[d, x], argTypes := #[dT, sT] })
    (v u : Value) (hd : a.eval d = v) (hx : a.eval x = u) {v' : Value} {w' : World} (hr : (Builtin.copy_ #[dT, sT] o.type #[v, u]).run P w = .ok v' w') (hK : K (a.put o.dst v') w') :
    if Region.wanted o (yielded ops a.tmps) = true then Oper.wp P o a w K Q else E := by
  have hw : Region.wanted o (yielded ops a.tmps) = true := by simp [Region.wanted, hg]
  rw [if_pos hw]
  unfold Oper.wp
  simp [execOp, hop, resolve, invoke, builtin, hd, hx, hr, Result.andThen]
  exact hK
theorem wpList_clear_by (w : World) {ops : Array Oper} {rest : List Oper} {o : Oper} {a : Act} {Q : Exit → Act → World → Prop} (hgd : o.guard = none) (d : Operand) (t : TypeId)
    (ho : o.op = .call { callee := .builtin .clear, args := #[d], argTypes := #[t] }) (v : Value) (hd : a.eval d = v) {v' : Value} {w' : World}
    (hr : (Builtin.clear_ #[t] o.type #[v]).run P w = .ok v' w') (h : wpList P ops Q rest (a.put o.dst v') w') : wpList P ops Q (o :: rest) a w := by
  refine wpList_plain hgd fun K hK => ?_
  unfold Oper.wp execOp
  simp only [ho, resolve, invoke, builtin, Sem.run_bind, Sem.run_pure, Result.andThen_ok, List.map_toArray, List.map_cons, List.map_nil, hd, hr]
  exact hK _ _ h
end
theorem setRow_grown (w : World) (g : Nat) (cs : Array Value) : w.grownBy (w.setRow g cs) (some g) :=
  ⟨rfl, rfl, rfl, by simp [World.setRow], fun i hi hne => setRow_other w g i cs (fun e => hne (by rw [e]))⟩

theorem csF_set : ∀ (L : List Fl) (k : Nat) (f : Fl), csE encF (L.set k f) = ((csE encF L).set (k * 2) (.string f.1)).set (k * 2 + 1) (.string f.2)
  | [], _, _ => by simp [csE]
  | a :: l, 0, f => by simp [csE, encF]
  | a :: l, k + 1, f => by
    rw [show (k + 1) * 2 = k * 2 + 2 from by omega, show k * 2 + 2 + 1 = (k * 2 + 1) + 2 from by omega]
    simp [csE, encF, csF_set l k f]
theorem own_setF {w : World} {B g n cap : Nat} {M : List Fl} (hn : n = M.length) (h : OwnF w B (.slice (some ⟨g, 0, none⟩) n cap) M) (k : Nat) (f : Fl) :
    OwnF ((w.setCell ⟨g, k * 2, none⟩ (.string f.1)).setCell ⟨g, k * 2 + 1, none⟩ (.string f.2)) B (.slice (some ⟨g, 0, none⟩) n cap) (M.set k f) := by
  subst hn
  unfold OwnF at h ⊢
  rw [csF_set, List.length_set]
  exact ((h.stored (k * 2) (.string f.1)).1.stored (k * 2 + 1) (.string f.2)).1
theorem own_takeF {w : World} {B n c m : Nat} {A : Option Addr} {M : List Fl} (hn : n = M.length) (h : OwnF w B (.slice A n c) M) (hm : m ≤ n) (hA : A ≠ none) : OwnF w B (.slice A m c) (M.take m) := by
  subst hn
  unfold OwnF at h ⊢
  rw [csE_take encF_len, List.length_take, Nat.min_eq_left hm]
  exact h.take_ hm hA
/-- What is known of a row of one's own that has cells. -/
theorem own_rowF {w : World} {B n cap g : Nat} {M : List Fl} (h : OwnF w B (.slice (some ⟨g, 0, none⟩) n cap) M) :
    n = M.length ∧ ∃ cur : Array Value, w.heap[g]? = some (.cells cur 89 (0, 0)) ∧ cur.size = cap * 2 ∧ n ≤ cap ∧ cap ≤ maxLen ∧ B ≤ g ∧ cur.toList.take (n * 2) = csE encF M := by
  have h' : w.ownsRow B 89 2 (.slice (some ⟨g, 0, none⟩) n cap) M.length (csE encF M) := h
  rcases h'.2 with ⟨e, h0⟩ | ⟨g', cap', cur, e, hB, hg, hnc, hcm, hcs, htake⟩
  · injection e with e1 e2 e3
    cases e1
  · injection e with e1 e2 e3
    injection e1 with e1
    injection e1 with e1 e4 e5
    subst e1; subst e2; subst e3
    exact ⟨rfl, cur, hg, hcs, hnc, hcm, hB, htake⟩
theorem own_mkF {w : World} {B n cap g : Nat} {M : List Fl} {cur : Array Value} (hn : n = M.length) (hg : w.heap[g]? = some (.cells cur 89 (0, 0))) (hcs : cur.size = cap * 2) (hnc : n ≤ cap) (hcm : cap ≤ maxLen) (hB : B ≤ g) (ht : cur.toList.take (n * 2) = csE encF M) :
    OwnF w B (.slice (some ⟨g, 0, none⟩) n cap) M := by
  subst hn
  exact ⟨csE_length encF_len M, .inr ⟨g, cap, cur, rfl, hB, hg, hnc, hcm, hcs, ht⟩⟩
theorem size_zeroF (n : Nat) : (Builtin.zeroCells (Value.agg #[.string ⟨#[]⟩, .string ⟨#[]⟩]).cells n).size = n * 2 := by rw [size_zeroCells]; rfl
theorem zeroF_one (n : Nat) : ∀ v ∈ (Builtin.zeroCells (Value.agg #[.string ⟨#[]⟩, .string ⟨#[]⟩]).cells n).toList, v.oneCell' = true := by
  intro v hv
  obtain ⟨k, hk, rfl⟩ := List.getElem_of_mem hv
  simp [Builtin.zeroCells, Value.cells]
  rcases Nat.mod_two_eq_zero_or_one k with h | h <;> simp [h, Value.oneCell']

set_option maxHeartbeats 1000000 in
/-- The last elements of a row of one's own are cleared, the first m are left. -/
theorem clear_ownF {w : World} {B n cap g m c : Nat} {M : List Fl} (h : OwnF w B (.slice (some ⟨g, 0, none⟩) n cap) M) (hm : m < n) (ty : TypeId) :
    ∃ w', (Builtin.clear_ #[28] ty #[.slice (some ⟨g, m * 2, none⟩) (n - m) c]).run Try.prog w = .ok (.tuple #[]) w' ∧ OwnF w' B (.slice (some ⟨g, 0, none⟩) m cap) (M.take m) ∧ w.grownBy w' (some g) := by
  obtain ⟨hn, cur, hg, hcs, hnc, hcm, hB, ht⟩ := own_rowF h
  obtain ⟨i0, hi, hz0, hz1, hz2⟩ := info_parts infoFile
  have hv : ∀ w, (zeroValue 89).run Try.prog w = .ok (.agg #[.string ⟨#[]⟩, .string ⟨#[]⟩]) w := fun w => by simp [zeroValue, typeInfo, hi, hz0]
  have hfit : m * 2 + (Builtin.zeroCells (Value.agg #[.string ⟨#[]⟩, .string ⟨#[]⟩]).cells (n - m)).size ≤ cur.size := by rw [size_zeroF, hcs]; omega
  have hr := run_clear_wide (P := Try.prog) w (n - m) 28 89 ty _ Try.underlying28 hv (zeroF_one (n - m)) g (m * 2) c (by omega) cur _ hg hfit
  refine ⟨_, hr, own_mkF (by rw [List.length_take]; omega) (setRow_heap w g cur _ _ _ hg) ?_ (by omega) hcm hB ?_, setRow_grown w g _⟩
  · rw [List.size_toArray, length_splice _ _ _ (by simpa using hfit)]
    simpa using hcs
  · rw [csE_take encF_len, ← ht, List.take_take, Nat.min_eq_left (by omega)]
    simp only [splice]
    rw [List.take_append_of_le_length (by simp; omega), List.take_take, Nat.min_self]

theorem wp_clear_File {ops : Array Oper} {rest : List Oper} {o : Oper} {a : Act} {Q : Exit → Act → World → Prop} (hgd : o.guard = none) (d : Operand)
    (ho : o.op = .call { callee := .builtin .clear, args := #[d], argTypes := #[28] }) (w : World) {B n cap g m c : Nat} {M : List Fl} (hd : a.eval d = .slice (some ⟨g, m * 2, none⟩) (n - m) c)
    (h : OwnF w B (.slice (some ⟨g, 0, none⟩) n cap) M) (hm : m < n)
    (hk : ∀ w', OwnF w' B (.slice (some ⟨g, 0, none⟩) m cap) (M.take m) → w.grownBy w' (some g) → wpList Try.prog ops Q rest (a.put o.dst (.tuple #[])) w') : wpList Try.prog ops Q (o :: rest) a w := by
  obtain ⟨w', hr, h1, h2⟩ := clear_ownF (c := c) h hm o.type
  exact wpList_clear_by w hgd d _ ho _ hd hr (hk w' h1 h2)

end Go.Proofs.Ytipmjgciaalmbaa
