/-
  What is proved here: cells that go over from one row to another, rows that are cleared, files that are put in place of others; the program's copy of files, and files without one; a file is put in among others, in whatever way there is room. No conditions beyond those that each theorem states.
-/
import Derived.Test.YtgfmgmcpfefmkaaV7G03
import Derived.Laws.CopyOwn
import Derived.Lib.SliceRun
import Derived.Test.YtgfmgmcpfefmkaaV7G07
import Derived.Lib.Overlaps
import Derived.Lib.AppendZerosOnto
import Derived.Deep.RegionLaw
set_option linter.unusedSimpArgs false
set_option linter.unusedVariables false
namespace Go.Proofs.Ytgfmgmcpfefmkaa
open Go.RowKit

section
variable {P : Program}
/-- What a copy of whole elements leaves: the cells cs from cell o on. -/
theorem run_copy_wide (w : World) (dT sT ty elem : TypeId) (s g o dLen dCap : Nat) (a : Addr) (sLen sCap : Nat) (cur : Array Value) (t : TypeId) (cs : List Value)
    (hu : P.underlying dT = some (.slice elem)) (hs : (P.info? elem).map (·.size) = some s) (hg : w.heap[g]? = some (.cells cur t (0, 0))) (hn : cs.length = Nat.min sLen dLen * s)
    (hsrc : ∀ j v, cs[j]? = some v → w.cell? (a.add j) = some v) (hfit : o + cs.length ≤ cur.size) (h1 : ∀ v ∈ cs, v.oneCell' = true) :
    (Builtin.copy_ #[dT, sT] ty #[.slice (some ⟨g, o, none⟩) dLen dCap, .slice (some a) sLen sCap]).run P w =
      .ok (goInt (Nat.min sLen dLen)) (w.setRow g (splice cur.toList o cs).toArray) := by
  have hl := run_loadCells_list (P := P) w a cs hsrc
  have hst := run_storeCells_at P g o t cs 0 cur w hg (by simpa using hfit) h1
  rw [hn] at hl
  cases hq : P.info? elem with
  | none => simp [hq] at hs
  | some i =>
    have hi : i.size = s := by simpa [hq] using hs
    subst hi
    simp [Builtin.copy_, run_underlying hu, Builtin.lenOf, Builtin.firstCells, sizeOf, typeInfo, hq, hl, hst, splice]
/-- A row that is cleared. -/
theorem run_clear_wide (w : World) (n : Nat) (t e ty : TypeId) (z : Value) (ht : P.underlying t = some (.slice e)) (hv : ∀ w, (zeroValue e).run P w = .ok z w) (h1 : ∀ v ∈ (Builtin.zeroCells z.cells n).toList, v.oneCell' = true) (g o c : Nat) (hn : 0 < n)
    (cur : Array Value) (tt : TypeId) (hg : w.heap[g]? = some (.cells cur tt (0, 0))) (hfit : o + (Builtin.zeroCells z.cells n).size ≤ cur.size) :
    (Builtin.clear_ #[t] ty #[.slice (some ⟨g, o, none⟩) n c]).run P w = .ok (.tuple #[]) (w.setRow g (splice cur.toList o (Builtin.zeroCells z.cells n).toList).toArray) := by
  have hst := run_storeCells_at P g o tt (Builtin.zeroCells z.cells n).toList 0 cur w hg (by simpa using hfit) h1
  obtain ⟨m, rfl⟩ : ∃ m, n = m + 1 := ⟨n - 1, by omega⟩
  simp [Builtin.clear_, run_underlying ht, hv, hst, splice]
theorem wpList_copy_by (w : World) {ops : Array Oper} {rest : List Oper} {o : Oper} {a : Act} {Q : Exit → Act → World → Prop} (hgd : o.guard = none) (d s : Operand) (t t' : TypeId)
    (ho : o.op = .call { callee := .builtin .copy, args := #[d, s], argTypes := #[t, t'] }) (v u : Value) (hd : a.eval d = v) (hs : a.eval s = u) {v' : Value} {w' : World}
    (hr : (Builtin.copy_ #[t, t'] o.type #[v, u]).run P w = .ok v' w') (h : wpList P ops Q rest (a.put o.dst v') w') : wpList P ops Q (o :: rest) a w := by
  refine wpList_plain hgd fun K hK => ?_
  unfold Oper.wp execOp
  simp only [ho, resolve, invoke, builtin, Sem.run_bind, Sem.run_pure, Result.andThen_ok, List.map_toArray, List.map_cons, List.map_nil, hd, hs, hr]
  exact hK _ _ h
theorem step_copy_by {ops : Array Oper} {o : Oper} {a : Act} {w : World} {K : Act → World → Prop} {Q : Exit → Act → World → Prop} {E : Prop}
    (hg : o.guard = none) (d x : Operand) (dT sT : TypeId) (hop : o.op = Op.call { callee := Callee.builtin Builtin.copy, args := #[d, x], argTypes := #[dT, sT] })
    (v u : Value) (hd : a.eval d = v) (hx : a.eval x = u) {v' : Value} {w' : World} (hr : (Builtin.copy_ #[dT, sT] o.type #[v, u]).run P w = .ok v' w') (hK : K (a.put o.dst v') w') :
    if Region.wanted o (yielded ops a.tmps) = true then Oper.wp P o a w K Q else E := by
  have hw : Region.wanted o (yielded ops a.tmps) = true := by simp [Region.wanted, hg]
  rw [if_pos hw]
  unfold Oper.wp
  simp [execOp, hop, resolve, invoke, builtin, hd, hx, hr, Result.andThen]
  exact hK
end
theorem setRow_grown (w : World) (g : Nat) (cs : Array Value) : w.grownBy (w.setRow g cs) (some g) :=
  ⟨rfl, rfl, rfl, by simp [World.setRow], fun i hi hne => setRow_other w g i cs (fun e => hne (by rw [e]))⟩

theorem csF_set : ∀ (L : List Fl) (k : Nat) (f : Fl), csE encF (L.set k f) = ((csE encF L).set (k * 2) (.string f.1)).set (k * 2 + 1) (.string f.2)
  | [], _, _ => by simp [csE]
  | a :: l, 0, f => by simp [csE, encF]
  | a :: l, k + 1, f => by
    rw [show (k + 1) * 2 = k * 2 + 2 from by omega, show k * 2 + 2 + 1 = (k * 2 + 1) + 2 from by omega]
    simp [csE, encF, csF_set l k f]
theorem own_setF {w : World} {B g n cap : Nat} {M : List Fl} (hn : n = M.length) (h : OwnF w B (.slice (some ⟨g, 0, none⟩) n cap) M) (k : Nat) (f : Fl) :
    OwnF ((w.setCell ⟨g, k * 2, none⟩ (.string f.1)).setCell ⟨g, k * 2 + 1, none⟩ (.string f.2)) B (.slice (some ⟨g, 0, none⟩) n cap) (M.set k f) := by
  subst hn
  unfold OwnF at h ⊢
  rw [csF_set, List.length_set]
  exact ((h.stored (k * 2) (.string f.1)).1.stored (k * 2 + 1) (.string f.2)).1
/-- What is known of a row of one's own that has cells. -/
theorem own_rowF {w : World} {B n cap g : Nat} {M : List Fl} (h : OwnF w B (.slice (some ⟨g, 0, none⟩) n cap) M) :
    n = M.length ∧ ∃ cur : Array Value, w.heap[g]? = some (.cells cur 86 (0, 0)) ∧ cur.size = cap * 2 ∧ n ≤ cap ∧ cap ≤ maxLen ∧ B ≤ g ∧ cur.toList.take (n * 2) = csE encF M := by
  have h' : w.ownsRow B 86 2 (.slice (some ⟨g, 0, none⟩) n cap) M.length (csE encF M) := h
  rcases h'.2 with ⟨e, h0⟩ | ⟨g', cap', cur, e, hB, hg, hnc, hcm, hcs, htake⟩
  · injection e with e1 e2 e3
    cases e1
  · injection e with e1 e2 e3
    injection e1 with e1
    injection e1 with e1 e4 e5
    subst e1; subst e2; subst e3
    exact ⟨rfl, cur, hg, hcs, hnc, hcm, hB, htake⟩
theorem own_mkF {w : World} {B n cap g : Nat} {M : List Fl} {cur : Array Value} (hn : n = M.length) (hg : w.heap[g]? = some (.cells cur 86 (0, 0))) (hcs : cur.size = cap * 2) (hnc : n ≤ cap) (hcm : cap ≤ maxLen) (hB : B ≤ g) (ht : cur.toList.take (n * 2) = csE encF M) :
    OwnF w B (.slice (some ⟨g, 0, none⟩) n cap) M := by
  subst hn
  exact ⟨csE_length encF_len M, .inr ⟨g, cap, cur, rfl, hB, hg, hnc, hcm, hcs, ht⟩⟩
theorem size_zeroF (n : Nat) : (Builtin.zeroCells (Value.agg #[.string ⟨#[]⟩, .string ⟨#[]⟩]).cells n).size = n * 2 := by rw [size_zeroCells]; rfl
theorem zeroF_one (n : Nat) : ∀ v ∈ (Builtin.zeroCells (Value.agg #[.string ⟨#[]⟩, .string ⟨#[]⟩]).cells n).toList, v.oneCell' = true := by
  intro v hv
  obtain ⟨k, hk, rfl⟩ := List.getElem_of_mem hv
  simp [Builtin.zeroCells, Value.cells]
  rcases Nat.mod_two_eq_zero_or_one k with h | h <;> simp [h, Value.oneCell']

set_option maxHeartbeats 1000000 in
/-- The last elements of a row of one's own are cleared, the first m are left. -/
theorem clear_ownF {w : World} {B n cap g m c : Nat} {M : List Fl} (h : OwnF w B (.slice (some ⟨g, 0, none⟩) n cap) M) (hm : m < n) (ty : TypeId) :
    ∃ w', (Builtin.clear_ #[28] ty #[.slice (some ⟨g, m * 2, none⟩) (n - m) c]).run Try.prog w = .ok (.tuple #[]) w' ∧ OwnF w' B (.slice (some ⟨g, 0, none⟩) m cap) (M.take m) ∧ w.grownBy w' (some g) := by
  obtain ⟨hn, cur, hg, hcs, hnc, hcm, hB, ht⟩ := own_rowF h
  obtain ⟨i0, hi, hz0, hz1, hz2⟩ := info_parts infoFile
  have hv : ∀ w, (zeroValue 86).run Try.prog w = .ok (.agg #[.string ⟨#[]⟩, .string ⟨#[]⟩]) w := fun w => by simp [zeroValue, typeInfo, hi, hz0]
  have hfit : m * 2 + (Builtin.zeroCells (Value.agg #[.string ⟨#[]⟩, .string ⟨#[]⟩]).cells (n - m)).size ≤ cur.size := by rw [size_zeroF, hcs]; omega
  have hr := run_clear_wide (P := Try.prog) w (n - m) 28 86 ty _ Try.underlying28 hv (zeroF_one (n - m)) g (m * 2) c (by omega) cur _ hg hfit
  refine ⟨_, hr, own_mkF (by rw [List.length_take]; omega) (setRow_heap w g cur _ _ _ hg) ?_ (by omega) hcm hB ?_, setRow_grown w g _⟩
  · rw [List.size_toArray, length_splice _ _ _ (by simpa using hfit)]
    simpa using hcs
  · rw [csE_take encF_len, ← ht, List.take_take, Nat.min_eq_left (by omega)]
    simp only [splice]
    rw [List.take_append_of_le_length (by simp; omega), List.take_take, Nat.min_self]


end Go.Proofs.Ytgfmgmcpfefmkaa

set_option linter.unusedSimpArgs false
set_option linter.unusedVariables false
namespace Go.Proofs.Ytgfmgmcpfefmkaa
open Go.RowKit

set_option maxRecDepth 100000 in
set_option maxHeartbeats 1000000 in
theorem cloneF_any (A : Option Addr) (n c : Nat) (L : List Fl) (hn : n = L.length) (w : World) (hm : n ≤ 1048576) (H1 : FilesAt w w.heap.size A L) :
    Calls Try.prog 79 #[.slice A n c] w (FilesNew L w) := by
  have K1 := Lib.hid H1
  have HN := Lib.hid hn
  have qT : ∀ (w : World) (a : Option Addr) (n c n' c' : Nat), (binOp .eql 28 (.slice a n c) (.slice none n' c')).run Try.prog w = .ok (.bool a.isNone) w := fun w a n c n' c' => Lib.run_eql_slice_nil w _ _ a n c n' c' Try.underlying28
  clear H1 hn
  cases A with
  | none =>
    have hL : L = [] := by
      cases L with
      | nil => rfl
      | cons f r =>
        obtain ⟨g, off, e, _⟩ := K1.out.cell (by simp)
        cases e
    subst hL
    go_enter Try.func79, Try.ntmps79
    go_wp2
    go_ret
    exact ⟨_, rfl, Owns.nil_ _ _ _ _, Bl.refl w⟩
  | some a =>
    go_enter Try.func79, Try.ntmps79
    go_wp2_with (at_builtin; refine wp_copy_File rfl (.tmp 5) (.tmp 6) rfl (w.alloc (.cells #[] 86)) w.heap.size _ (some a) n c L rfl rfl (World.ownsRow_made (base := w.heap.size) (e := 86) (size := 2) w #[] 0 (Nat.le_refl _) (by unfold maxLen; omega) rfl) (by simp) HN.out (by omega) (K1.out.bl (Bl.alloc_ (Bl.refl _) _)) ?_)
    intro v' w' hv' hb'
    have V := Lib.hid hv'
    have B2 := Lib.hid (hb' w ((Bl.refl w).alloc_ _) (Nat.le_refl _))
    clear hv' hb'
    go_wp2
    go_ret
    exact ⟨_, rfl, V.out, B2.out⟩

set_option maxHeartbeats 400000 in
theorem delPred_any (f : Fl) (nm : ByteArray) (b : Nat) (w : World) (hc : w.cell? ⟨b, 0, none⟩ = some (.string nm)) :
    Calls Try.prog 93 #[.agg #[.string f.1, .string f.2], .pointer (some ⟨b, 0, none⟩)] w fun e w' => e = .returned (.bool (sameB f.1 nm)) ∧ Bl w w' := by
  obtain ⟨x, y⟩ := f
  show Calls Try.prog 93 #[.agg #[.string x, .string y], .pointer (some ⟨b, 0, none⟩)] w _
  have hb := World.block_lt_of_cell? _ _ hc
  have h2 : ∀ o, (w.alloc o).cell? ⟨b, 0, none⟩ = some (.string nm) := fun o => by rw [World.cell?_alloc_lt w o _ hb]; exact hc
  have h3 := h2 (.cells #[.string x, .string y] 86)
  go_enter Try.func93, Try.ntmps93
  go_wp2
  go_ret
  exact ⟨rfl, (by repeat' (first | exact Bl.refl _ | with_reducible assumption | with_reducible refine Bl.drew_ ?_ | with_reducible refine Bl.drewN_ ?_ _ | with_reducible refine Bl.alloc_ ?_ _ | with_reducible refine Bl.trans_ ?_ (by assumption) | with_reducible refine Bl.trans_ ?_ (And.left (by assumption))))⟩

/-- The first file of that name; -1: there is none. -/
def FirstI (L : List Fl) (nm : ByteArray) (i : Int) : Prop :=
  (∃ k : Nat, i = (k : Int) ∧ ∃ hk : k < L.length, sameB L[k].1 nm = true ∧ ∀ j (hj : j < k), sameB (L[j]'(by omega)).1 nm = false) ∨ (i = -1 ∧ ∀ j (hj : j < L.length), sameB L[j].1 nm = false)
set_option maxRecDepth 100000 in
set_option maxHeartbeats 1000000 in
theorem indexDel_any (A : Option Addr) (n c : Nat) (L : List Fl) (hn : n = L.length) (nm : ByteArray) (b : Nat) (w : World) (hm : n ≤ 1048576) (H1 : FilesAt w w.heap.size A L) (hb : w.cell? ⟨b, 0, none⟩ = some (.string nm)) :
    Calls Try.prog 102 #[.slice A n c, .func (.func 93) #[] #[.pointer (some ⟨b, 0, none⟩)]] w fun e w' => (∃ i : Int, e = .returned (.int .i64 i) ∧ FirstI L nm i) ∧ Bl w w' := by
  have K1 := Lib.hid H1
  have HN := Lib.hid hn
  have HB := Lib.hid (show ∀ wx, Bl w wx → wx.cell? ⟨b, 0, none⟩ = some (.string nm) from fun wx h => ((bcell h).1 _ _ (World.block_lt_of_cell? _ _ hb)).trans hb)
  clear H1 hn hb
  go_enter Try.func102, Try.ntmps102
  go_wp2
  go_loopw [8] (fun i wr => ∃ k : Nat, k ≤ n ∧ i = .int .i64 k ∧ Hid (∀ j (hj : j < L.length), j < k → sameB L[j].1 nm = false) ∧ Bl w wr) (fun i _ => n - (intOf i).toNat)
  case atStart => exact ⟨0, by omega, rfl, Lib.hid (fun j _ h => absurd h (by omega)), Bl.refl w⟩
  case round =>
    obtain ⟨k, hk, rfl, HO, hbl⟩ := hrel
    have BW := Lib.hid hbl
    by_cases hlt : k < n
    · have hkl : k < L.length := by have := HN.out; omega
      obtain ⟨g1, o1, rfl, hg1, hc1⟩ := K1.out.cell (by omega)
      obtain ⟨p1, p2⟩ := hc1 k hkl
      rw [← (bcell hbl).1 _ _ hg1] at p1 p2
      obtain ⟨f, hf⟩ : ∃ f, f = L[k] := ⟨_, rfl⟩
      rw [← hf] at p1 p2
      have HF := Lib.hid hf
      have i0 : (0 : Int) ≤ (k : Int) := by omega
      have i1 : (k : Int) < (n : Int) := by omega
      clear hc1 hf hbl
      go_wp2_with fail
      refine (delPred_any f nm b _ (HB.out _ BW.out)).mono ?_
      rintro e w1 ⟨rfl, hb1⟩
      have B1 := Lib.hid (BW.out.trans_ hb1)
      by_cases e : sameB f.1 nm = true
      · have E := Lib.hid e
        rw [e]
        go_wp2
        go_ret
        exact ⟨⟨k, rfl, .inl ⟨k, rfl, hkl, by rw [← HF.out]; exact E.out, fun j hj => HO.out j (by omega) hj⟩⟩, B1.out⟩
      · have e0 : sameB f.1 nm = false := by simpa using e
        have E := Lib.hid e0
        rw [e0]
        clear e e0
        go_wp2
        go_roundw
        case rel =>
          refine ⟨k + 1, by omega, by go_num, Lib.hid fun j hj h => ?_, B1.out⟩
          rcases Nat.lt_or_ge j k with h' | h'
          · exact HO.out j hj h'
          · obtain rfl : j = k := by omega
            rw [← HF.out]; exact E.out
        case measure => simp [intOf]; omega
    · go_wp2
      go_ret
      exact ⟨⟨-1, rfl, .inr ⟨rfl, fun j hj => HO.out j hj (by have := HN.out; omega)⟩⟩, hbl⟩

theorem cut_none {L : List Fl} {nm : ByteArray} (h : ∀ j (hj : j < L.length), sameB L[j].1 nm = false) : cutL L nm = L := by
  unfold cutL
  rw [List.filter_eq_self]
  intro f hf
  obtain ⟨j, hj, rfl⟩ := List.getElem_of_mem hf
  rw [h j hj]; rfl
/-- What has been done of a list: the first i of M are what is left of the first j of L. -/
def CutSt (L M : List Fl) (nm : ByteArray) (i j : Nat) : Prop := M.length = L.length ∧ M.take i = cutL (L.take j) nm ∧ M.drop j = L.drop j ∧ i < j ∧ j ≤ L.length
theorem CutSt.first {L : List Fl} {nm : ByteArray} {k : Nat} (hk : k < L.length) (h1 : sameB L[k].1 nm = true) (h2 : ∀ j (hj : j < k), sameB (L[j]'(by omega)).1 nm = false) : CutSt L L nm k (k + 1) := by
  refine ⟨rfl, ?_, rfl, by omega, by omega⟩
  rw [List.take_succ_eq_append_getElem hk]
  have e : cutL (L.take k) nm = L.take k := cut_none fun j hj => by
    rw [List.getElem_take]
    exact h2 j (by rw [List.length_take] at hj; omega)
  unfold cutL at e ⊢
  rw [List.filter_append, e, List.filter_cons, h1]
  simp
theorem CutSt.at_ {L M : List Fl} {nm : ByteArray} {i j : Nat} (h : CutSt L M nm i j) (hj : j < L.length) (hM : j < M.length) : M[j] = L[j] := by
  have h3 := h.2.2.1
  have e1 : (M.drop j)[0]? = (L.drop j)[0]? := by rw [h3]
  rw [List.getElem?_drop, List.getElem?_drop, Nat.add_zero, List.getElem?_eq_getElem hM, List.getElem?_eq_getElem hj] at e1
  injection e1
theorem drop_next {α : Type} {M L : List α} {j : Nat} (h : M.drop j = L.drop j) : M.drop (j + 1) = L.drop (j + 1) := by
  rw [← List.drop_drop, ← List.drop_drop, h]
theorem CutSt.skip {L M : List Fl} {nm : ByteArray} {i j : Nat} (h : CutSt L M nm i j) (hj : j < L.length) (h1 : sameB L[j].1 nm = true) : CutSt L M nm i (j + 1) := by
  obtain ⟨a, b, c, d, e⟩ := h
  refine ⟨a, ?_, drop_next c, by omega, by omega⟩
  rw [List.take_succ_eq_append_getElem hj, b]
  unfold cutL
  rw [List.filter_append, List.filter_cons, h1]
  simp
theorem CutSt.keep {L M : List Fl} {nm : ByteArray} {i j : Nat} (h : CutSt L M nm i j) (hj : j < L.length) (h1 : sameB L[j].1 nm = false) : CutSt L (M.set i L[j]) nm (i + 1) (j + 1) := by
  obtain ⟨a, b, c, d, e⟩ := h
  refine ⟨by rw [List.length_set, a], ?_, ?_, by omega, by omega⟩
  · rw [List.take_succ_eq_append_getElem (by rw [List.length_set]; omega), List.getElem_set_self, List.take_set, List.set_eq_of_length_le (by rw [List.length_take]; omega), b, List.take_succ_eq_append_getElem hj]
    unfold cutL
    rw [List.filter_append, List.filter_cons, h1]
    simp
  · rw [List.drop_set_of_lt (by omega)]
    exact drop_next c

set_option maxRecDepth 100000 in
set_option maxHeartbeats 4000000 in
theorem deleteF_any (W : World) (v : Value) (L : List Fl) (nm : ByteArray) (b : Nat) (w : World) (hm : L.length ≤ 1048576) (hW : Bl W w) (H1 : OwnF w W.heap.size v L) (hb : w.cell? ⟨b, 0, none⟩ = some (.string nm)) (hbv : ∀ g, v.ownBlock = some g → b ≠ g) :
    Calls Try.prog 92 #[v, .func (.func 93) #[] #[.pointer (some ⟨b, 0, none⟩)]] w fun e w' => (∃ v', e = .returned v' ∧ OwnF w' W.heap.size v' (cutL L nm)) ∧ Bl W w' := by
  obtain ⟨A, c, rfl, hc, hA, hgA⟩ := own_shapeF H1
  have OW := Lib.hid H1
  have FA := Lib.hid hA
  have BW := Lib.hid hW
  have HBC := Lib.hid hb
  have HBV := Lib.hid hbv
  obtain ⟨n, hn⟩ : ∃ n, n = L.length := ⟨_, rfl⟩
  rw [← hn] at OW hc hm HBV ⊢
  have HN := Lib.hid hn
  clear H1 hA hW hb hbv hn
  go_enter Try.func92, Try.ntmps92
  go_wp2_with fail
  refine (indexDel_any A n c L HN.out nm b _ (by omega) FA.out HBC.out).mono ?_
  rintro e w1 ⟨⟨i, rfl, hi⟩, hb1⟩
  have B1 := Lib.hid (BW.out.trans_ hb1)
  have O1 := Lib.hid (Owns.bl (show Owns _ _ _ _ _ _ _ from OW.out) hb1)
  rcases hi with ⟨k, rfl, hk, hk1, hk2⟩ | ⟨rfl, hh⟩
  · have ST := Lib.hid (CutSt.first hk hk1 hk2)
    obtain ⟨g, off, hAe, hgl, -⟩ := FA.out.cell (by omega)
    have hshape := Owns.shape (show Owns _ _ _ _ _ _ _ from OW.out)
    obtain ⟨A', c', heq, -, -, -, h3⟩ := hshape
    obtain ⟨g', hA', hgB, hgl', -, -⟩ := h3 (by omega)
    injection heq with heq1 heq2 heq3
    subst heq1
    subst hA'
    clear hAe hk1 hk2 hgl heq3 heq2
    have hbg : b ≠ g' := HBV.out g' rfl
    have hbw : b < w1.heap.size := Nat.lt_of_lt_of_le (World.block_lt_of_cell? _ _ HBC.out) hb1.size
    have HB1 := Lib.hid (((bcell hb1).1 _ _ (World.block_lt_of_cell? _ _ HBC.out)).trans HBC.out)
    have kn : k < n := by have := HN.out; omega
    have O1' := Lib.hid (show OwnF w1 W.heap.size (.slice (some ⟨g', 0, none⟩) n c) L from O1.out)
    have k1 : ((k : Int) == -1) = false := by simp
    clear O1 hb1
    go_wp2
    go_loopw [5, 6] (fun x y wr => ∃ (i j : Nat) (M : List Fl), i < j ∧ j ≤ n ∧ x = .int .i64 (i : Int) ∧ y = .int .i64 (j : Int) ∧ Hid (CutSt L M nm i j) ∧ OwnF wr W.heap.size (.slice (some ⟨g', 0, none⟩) n c) M ∧ wr.cell? ⟨b, 0, none⟩ = some (.string nm) ∧ Bl W wr) (fun _ y _ => n - (intOf y).toNat)
    case atStart => exact ⟨k, k + 1, L, by omega, by omega, rfl, by go_num, ST, O1'.out, HB1.out, B1.out⟩
    case round =>
      obtain ⟨i, j, M, hij, hjn, rfl, rfl, HS, hown, hcb, hbl⟩ := hrel
      have O := Lib.hid hown
      have BL := Lib.hid hbl
      have CB := Lib.hid hcb
      have hMl : M.length = n := by rw [HS.out.1, HN.out]
      have hi0 : (0 : Int) ≤ (i : Int) := by omega
      have hj0 : (0 : Int) ≤ (j : Int) := by omega
      have hin : (i : Int) < (n : Int) := by omega
      by_cases hlt : j < n
      · have hjL : j < L.length := by have := HN.out; omega
        have hjM : j < M.length := by omega
        obtain ⟨Am, cm, hme, hcm, hAm, -⟩ := own_shapeF hown
        injection hme with hme1 hme2 hme3
        subst hme1
        obtain ⟨g1, o1, hge, hgs, hc1⟩ := hAm.cell (by omega)
        injection hge with hge
        injection hge with hge1 hge2 hge3
        subst hge1; subst hge2
        obtain ⟨p1, p2⟩ := hc1 j hjM
        obtain ⟨q1, q2⟩ := hc1 i (by omega)
        rw [HS.out.at_ hjL hjM] at p1 p2
        obtain ⟨f, hf⟩ : ∃ f, f = L[j] := ⟨_, rfl⟩
        rw [← hf] at p1 p2
        have HF := Lib.hid hf
        rw [Nat.zero_add] at p1 p2 q1 q2
        have jn : (j : Int) < (n : Int) := by omega
        have hfr : ∀ o, wr.frozen? ⟨g', o, none⟩ = false := fun o => World.ownsRow.frozenAt (show wr.ownsRow W.heap.size 86 2 (.slice (some ⟨g', 0, none⟩) n c) n (csE encF M) from by
          have h := hown
          unfold OwnF Owns at h
          rw [hMl] at h
          exact h) o
        have FR := Lib.hid (show ∀ wx, Bl wr wx → (wx.cell? ⟨g', i * 2, none⟩ = some (.string M[i].1) ∧ wx.cell? ⟨g', i * 2 + 1, none⟩ = some (.string M[i].2)) ∧ ∀ o, wx.frozen? ⟨g', o, none⟩ = false from fun wx hb =>
          ⟨⟨((bcell hb).1 _ _ hgs).trans q1, ((bcell hb).1 _ _ hgs).trans q2⟩, fun o => ((bcell hb).2 _ _ hgs).trans (hfr o)⟩)
        have hbs : b < wr.heap.size := World.block_lt_of_cell? _ _ hcb
        clear hf hc1 hAm hown hbl hme2 hme3 hcm q1 q2 hfr hcb
        go_wp2_with fail
        refine (delPred_any f nm b _ (((bcell (Bl.alloc_ (Bl.refl wr) _)).1 _ _ hbs).trans CB.out)).mono ?_
        rintro e w2 ⟨rfl, hb2⟩
        obtain ⟨z0, z1⟩ := box2 hb2
        have HB2 := Lib.hid ((Bl.alloc_ (Bl.refl wr) _).trans_ hb2)
        have O2 := Lib.hid (show OwnF w2 W.heap.size (.slice (some ⟨g', 0, none⟩) n c) M from Owns.bl (show Owns _ _ _ _ _ _ _ from O.out) HB2.out)
        have C2 := Lib.hid (((bcell HB2.out).1 _ _ hbs).trans CB.out)
        clear hb2
        by_cases e : sameB f.1 nm = true
        · have E := Lib.hid e
          rw [e]
          go_wp2
          go_roundw
          case rel =>
            exact ⟨i, j + 1, M, by omega, by omega, rfl, by go_num, Lib.hid (HS.out.skip hjL (by rw [← HF.out]; exact E.out)), O2.out, C2.out, BL.out.trans_ HB2.out⟩
          case measure => simp [intOf]; omega
        · have e0 : sameB f.1 nm = false := by simpa using e
          have E := Lib.hid e0
          rw [e0]
          obtain ⟨⟨y1, y2⟩, y0⟩ := FR.out _ HB2.out
          have y3 := y0 (i * 2)
          have y4 := y0 (i * 2 + 1)
          clear e e0 y0
          go_wp2
          go_roundw
          case rel =>
            refine ⟨i + 1, j + 1, M.set i f, by omega, by omega, by go_num, by go_num, Lib.hid ?_, own_setF hMl.symm O2.out i f, ?_, Bl.set_ (Bl.set_ (BL.out.trans_ HB2.out) hgB _) hgB _⟩
            · rw [HF.out]
              exact HS.out.keep hjL (by rw [← HF.out]; exact E.out)
            · rw [World.cell?_setCell_other _ _ _ _ (fun e => hbg (by injection e with e1; exact e1.symm)), World.cell?_setCell_other _ _ _ _ (fun e => hbg (by injection e with e1; exact e1.symm))]
              exact C2.out
          case measure => simp [intOf]; omega
      · obtain rfl : j = n := by omega
        obtain ⟨hs1, hs2, -, -, -⟩ := HS.out
        have hci : ¬ c = i := by omega
        have HL := Lib.hid (show M.take i = cutL L nm from by rw [hs2, List.take_of_length_le (by have := HN.out; omega)])
        clear hown hs1 hs2 hbl hcb
        obtain ⟨w2, hr, hw2, hg2⟩ := clear_ownF (c := c - i) O.out hij 0
        have V2 := Lib.hid hw2
        have G2 := Lib.hid (BL.out.grown_ hg2 (fun g hg => by injection hg with hg; rw [← hg]; exact hgB))
        clear hw2 hg2
        go_wp2
        go_ret
        exact ⟨⟨_, rfl, by rw [← HL.out]; exact V2.out⟩, G2.out⟩
  · have HC := Lib.hid (cut_none hh)
    go_wp2
    go_ret
    exact ⟨⟨_, rfl, by rw [HC.out]; exact O1.out⟩, B1.out⟩

set_option maxRecDepth 100000 in
set_option maxHeartbeats 1000000 in
theorem without_any (A : Option Addr) (n c : Nat) (L : List Fl) (hn : n = L.length) (nm : ByteArray) (w : World) (hm : n ≤ 1048576) (H1 : FilesAt w w.heap.size A L) :
    Calls Try.prog 78 #[.slice A n c, .string nm] w (FilesNew (cutL L nm) w) := by
  have K1 := Lib.hid H1
  have HN := Lib.hid hn
  clear H1 hn
  go_enter Try.func78, Try.ntmps78
  go_wp2_with fail
  refine (cloneF_any A n c L HN.out _ (by omega) (K1.out.bl (by repeat' (first | exact Bl.refl _ | with_reducible assumption | with_reducible refine Bl.drew_ ?_ | with_reducible refine Bl.drewN_ ?_ _ | with_reducible refine Bl.alloc_ ?_ _ | with_reducible refine Bl.trans_ ?_ (by assumption) | with_reducible refine Bl.trans_ ?_ (And.left (by assumption)))))).mono ?_
  rintro e w1 ⟨v, rfl, hv, hb1⟩
  have hq := box1 hb1
  have V := Lib.hid (show OwnF w1 w.heap.size v L from hv.low (by simp))
  have B1 := Lib.hid ((Bl.alloc_ (Bl.refl w) _).trans_ hb1)
  have hne : ∀ g, v.ownBlock = some g → w.heap.size ≠ g := fun g hg => by
    have := (Owns.lt (show Owns _ _ _ _ _ _ _ from hv) g hg).1
    simp at this
    omega
  clear hv hb1
  go_wp2_with fail
  refine (deleteF_any w v L nm w.heap.size _ (by have := HN.out; omega) B1.out V.out hq hne).mono ?_
  rintro e w2 ⟨⟨v2, rfl, hv2⟩, hb2⟩
  have V2 := Lib.hid hv2
  clear hv2
  go_wp2
  go_ret
  exact ⟨_, rfl, V2.out, hb2⟩

end Go.Proofs.Ytgfmgmcpfefmkaa

set_option linter.unusedSimpArgs false
set_option linter.unusedVariables false
namespace Go.Proofs.Ytgfmgmcpfefmkaa
open Go.RowKit

theorem splice_ab {α : Type} (C P X Y : List α) (a x y : Nat) (hP : C.take a = P) (ha : a ≤ C.length) (hx : X.length = x) (hy : Y.length = y) (hfit : a + x + y ≤ C.length) :
    (splice (splice C a X) (a + x) Y).take (a + x + y) = P ++ (X ++ Y) := by
  subst hP; subst hx; subst hy
  have e1 : (splice C a X).take (a + X.length) = C.take a ++ X := by
    unfold splice
    rw [← List.append_assoc, List.take_append_of_le_length (by simp; omega)]
    exact List.take_of_length_le (by simp; omega)
  show ((splice C a X).take (a + X.length) ++ (Y ++ _)).take _ = _
  rw [e1, ← List.append_assoc, List.take_append_of_le_length (by simp; omega), List.take_of_length_le (by simp; omega), List.append_assoc]
theorem splice_ba {α : Type} (C P X Y : List α) (a x y : Nat) (hP : C.take a = P) (ha : a ≤ C.length) (hx : X.length = x) (hy : Y.length = y) (hfit : a + x + y ≤ C.length) :
    (splice (splice C (a + x) Y) a X).take (a + x + y) = P ++ (X ++ Y) := by
  subst hP; subst hx; subst hy
  have e0 : (splice C (a + X.length) Y).take a = C.take a := by
    unfold splice
    rw [List.take_append_of_le_length (by simp; omega), List.take_take, Nat.min_eq_left (by omega)]
  have e1 : ((splice C (a + X.length) Y).drop (a + X.length)).take Y.length = Y := by
    unfold splice
    rw [List.drop_append_of_le_length (by simp; omega), List.drop_of_length_le (by simp; omega), List.nil_append]
    rw [List.take_append_of_le_length (Nat.le_refl _)]
    exact List.take_of_length_le (Nat.le_refl _)
  show ((splice C (a + X.length) Y).take a ++ (X ++ (splice C (a + X.length) Y).drop (a + X.length))).take _ = _
  rw [e0, ← List.append_assoc, List.take_append, List.take_of_length_le (by simp; omega), List.append_assoc]
  congr 1
  congr 1
  rw [show a + X.length + Y.length - (C.take a ++ X).length = Y.length from by simp; omega]
  exact e1
theorem csE_ins (L : List Fl) (i : Nat) (f : Fl) : csE encF (L.take i ++ f :: L.drop i) = csE encF (L.take i) ++ (encF f ++ csE encF (L.drop i)) := by
  rw [csE_append]; rfl

set_option maxHeartbeats 1000000 in
theorem wp_append_FileAt {ops : Array Oper} {rest : List Oper} {o : Oper} {a : Act} {Q : Exit → Act → World → Prop} (hgd : o.guard = none) (s x : Operand)
    (ho : o.op = .call { callee := .builtin .append, args := #[s, x], argTypes := #[28, 28] })
    (w : World) (B b : Nat) (v : Value) (V : List Fl) (f : Fl) (hs : a.eval s = v) (hx : a.eval x = .slice (some ⟨b, 0, none⟩) 1 1)
    (hO : OwnF w B v V) (hl : V.length ≤ 1048575) (hB : B ≤ w.heap.size) (h0 : w.cell? ⟨b, 0, none⟩ = some (.string f.1)) (h1 : w.cell? ⟨b, 1, none⟩ = some (.string f.2))
    (h : ∀ v' w', OwnF w' B v' (V ++ [f]) → (∀ W : World, Bl W w → W.heap.size ≤ B → Bl W w') → wpList Try.prog ops Q rest (a.put o.dst v') w') :
    wpList Try.prog ops Q (o :: rest) a w := by
  obtain ⟨i0, hi, hz0, hz1, hz2⟩ := info_parts infoFile
  have hO' : w.ownsRow B 86 2 v V.length (csE encF V) := hO
  refine wpList_append_own_at _ hgd s x _ ho B 86 i0 _ 2 32 Try.underlying28 hi hz0 hz1 hz2 rfl (by decide) v V.length (csE encF V) hs hO' ⟨b, 0, none⟩ 1 1 (encF f) hx rfl ?_ (encF_one f) (by unfold maxLen; omega) (by omega) hB ?_
  · intro j u hj
    rw [Go.WideShapes.add_plain, Nat.zero_add]
    match j, hj with
    | 0, hj => exact h0.trans hj
    | 1, hj => exact h1.trans hj
    | j + 2, hj => simp [encF] at hj
  · intro v' w' g1 g2 _ _
    refine h v' w' (own_snocFile g1) fun W hW hWB => ?_
    refine hW.grown_ g2 fun g hg => ?_
    have := (World.ownsRow.lt hO' g hg).1
    omega

theorem cells_of_row {w : World} {g n : Nat} {cur : Array Value} {t : TypeId} {M : List Fl} (hg : w.heap[g]? = some (.cells cur t (0, 0))) (ht : cur.toList.take (n * 2) = csE encF M) (hn : n = M.length) (i : Nat) :
    ∀ j v, (csE encF (M.drop i))[j]? = some v → w.cell? ⟨g, i * 2 + j, none⟩ = some v := by
  intro j v hv
  rw [csE_drop encF_len, List.getElem?_drop, ← ht] at hv
  have hj : i * 2 + j < n * 2 := by
    have := (List.getElem?_eq_some_iff.1 hv).1
    rw [List.length_take] at this
    omega
  rw [List.getElem?_take, if_pos hj] at hv
  have hv' : cur[i * 2 + j]? = some v := by simpa using hv
  simp [World.cell?, hg, hv']

set_option maxRecDepth 100000 in
set_option maxHeartbeats 8000000 in
theorem insertF_any (W : World) (v : Value) (L : List Fl) (i n : Nat) (f : Fl) (b : Nat) (tb : TypeId) (w : World) (hn : n = L.length) (hm : n ≤ 1048000) (hi : i ≤ n) (hW : Bl W w) (H1 : OwnF w W.heap.size v L)
    (hb : w.heap[b]? = some (.cells #[.string f.1, .string f.2] tb (0, 0))) (hbv : ∀ g, v.ownBlock = some g → b ≠ g) :
    Calls Try.prog 91 #[v, .int .i64 (i : Int), .slice (some ⟨b, 0, none⟩) 1 1] w fun e w' => (∃ v', e = .returned v' ∧ OwnF w' W.heap.size v' (L.take i ++ f :: L.drop i)) ∧ Bl W w' := by
  obtain ⟨A, c, rfl, hc, hA, hgA⟩ := own_shapeF H1
  have BW := Lib.hid hW
  have hbl := (Array.getElem?_eq_some_iff.1 hb).1
  have b0 : w.cell? ⟨b, 0, none⟩ = some (.string f.1) := by simp [World.cell?, hb]
  have b1 : w.cell? ⟨b, 1, none⟩ = some (.string f.2) := by simp [World.cell?, hb]
  rw [← hn] at H1 hc hbv ⊢
  have OW := Lib.hid H1
  have HB := Lib.hid hb
  have HBV := Lib.hid hbv
  have HN := Lib.hid hn
  have B0 := Lib.hid b0
  have B1 := Lib.hid b1
  have hi0 : (0 : Int) ≤ (i : Int) := by omega
  have hin0 : (i : Int) ≤ (n : Int) := by omega
  rcases Nat.eq_or_lt_of_le hi with rfl | hlt
  · have HE := Lib.hid (show L.take i ++ f :: L.drop i = L ++ [f] from by rw [List.take_of_length_le (by omega), List.drop_of_length_le (by omega)])
    clear H1 hA hW hb hbv b0 b1 hn
    have go : ∀ hcc : Hid (c = i ∨ ¬ c = i), Calls Try.prog 91 #[.slice A i c, .int .i64 (i : Int), .slice (some ⟨b, 0, none⟩) 1 1] w fun e w' => (∃ v', e = .returned v' ∧ OwnF w' W.heap.size v' (L ++ [f])) ∧ Bl W w' := by
      intro hcc
      rcases hcc.out with rfl | hci
      · go_enter Try.func91, Try.ntmps91
        go_wp2_with (at_builtin; refine wp_append_FileAt rfl (.tmp 23) (.tmp 24) rfl _ W.heap.size b _ L f rfl rfl OW.out (by have := HN.out; omega) BW.out.size B0.out B1.out ?_)
        intro v8 w8 hv8 hb8
        have V := Lib.hid hv8
        have B8 := Lib.hid (hb8 W BW.out (Nat.le_refl _))
        clear hv8 hb8
        go_wp2
        go_ret
        exact ⟨⟨_, rfl, V.out⟩, B8.out⟩
      · go_enter Try.func91, Try.ntmps91
        go_wp2_with (at_builtin; refine wp_append_FileAt rfl (.tmp 23) (.tmp 24) rfl _ W.heap.size b _ L f rfl rfl OW.out (by have := HN.out; omega) BW.out.size B0.out B1.out ?_)
        intro v8 w8 hv8 hb8
        have V := Lib.hid hv8
        have B8 := Lib.hid (hb8 W BW.out (Nat.le_refl _))
        clear hv8 hb8
        go_wp2
        go_ret
        exact ⟨⟨_, rfl, V.out⟩, B8.out⟩
    rw [HE.out]
    exact go (Lib.hid (Decidable.em _))
  · have hshape := Owns.shape (show Owns _ _ _ _ _ _ _ from H1)
    obtain ⟨A', c', heq, -, -, -, h3⟩ := hshape
    obtain ⟨g, hA', hgB, hgl, -, -⟩ := h3 (by omega)
    injection heq with heq1 heq2 heq3
    subst heq1
    subst hA'
    subst heq3
    clear heq2
    have hbg : b ≠ g := hbv g rfl
    obtain ⟨-, cur, hg, hcs, -, hcm, -, ht⟩ := own_rowF H1
    have hci : ¬ c = i := by omega
    have hin : ¬ (i : Int) = (n : Int) := by omega
    have hY : (csE encF (L.drop i)).length = (n - i) * 2 := by rw [csE_length encF_len, List.length_drop, hn]
    have hXl : (encF f).length = 2 := rfl
    have hP : cur.toList.take (i * 2) = csE encF (L.take i) := by
      rw [csE_take encF_len, ← ht, List.take_take, Nat.min_eq_left (by omega)]
    have hsrcY := cells_of_row hg ht hn i
    have hsrcX : ∀ j u, (encF f)[j]? = some u → w.cell? ⟨b, 0 + j, none⟩ = some u := fun j u hj => by
      rw [Nat.zero_add]
      match j, hj with
      | 0, hj => exact b0.trans hj
      | 1, hj => exact b1.trans hj
      | j + 2, hj => simp [encF] at hj
    obtain ⟨i0, hi', hz0, hz1, hz2⟩ := info_parts infoFile
    have hsz2 : (Try.prog.info? 86).map (·.size) = some 2 := by rw [hi']; simp [hz1]
    have w1 : IntKind.i64.wrap ((n : Int) + 1) = (n : Int) + 1 := IntWalk.i64_in _ (by omega)
    have w2 : IntKind.i64.wrap ((i : Int) + 1) = (i : Int) + 1 := IntWalk.i64_in _ (by omega)
    have w3 : IntKind.i64.wrap ((n : Int) + 1 - (i : Int)) = (n : Int) + 1 - (i : Int) := IntWalk.i64_in _ (by omega)
    have n1 : ((n : Int) + 1).toNat = n + 1 := by omega
    have n2 : ((i : Int) + 1).toNat = i + 1 := by omega
    have p1 : (0 : Int) ≤ (i : Int) + 1 := by omega
    have p2 : (0 : Int) ≤ (n : Int) + 1 := by omega
    have p3 : (i : Int) + 1 ≤ (n : Int) + 1 := by omega
    have p4 : (i : Int) ≤ (n : Int) + 1 := by omega
    by_cases hroom : n + 1 ≤ c
    · have hr1 : ¬ (c : Int) < (n : Int) + 1 := by omega
      have hr2 : (n : Int) + 1 ≤ (c : Int) := by omega
      have hci1 : ¬ c = i + 1 := by omega
      have hov : ∀ lb cb, (callFunc 100 #[.slice (some ⟨b, 0, none⟩) 1 1, .slice (some ⟨g, (i + 1) * 2, none⟩) lb cb]).run Try.prog w = .ok (.value (.bool false)) w := fun lb cb => by
        rw [run_callFunc_extern Try.func100 (by kernel_rfl) (by kernel_rfl) (by kernel_rfl) (e := Extern.SlicesOverlaps.overlaps #[28, 28] #[4]) (by kernel_rfl),
          Lib.run_overlaps_apart w 28 4 86 Try.underlying28 2 (fun w => by simp [sizeOf, typeInfo, hi', hz1]) ⟨b, 0, none⟩ ⟨g, (i + 1) * 2, none⟩ 1 1 lb cb hbg tb 86 2 cur.size (by simp [World.shape?, hb]) (by simp [World.shape?, hg]) (by omega) (by simp [World.frozen?, hb]) (by simp [World.frozen?, hb])]
        rfl
      have hfitY : (i + 1) * 2 + (csE encF (L.drop i)).length ≤ cur.size := by rw [hY, hcs]; omega
      have hcp1 : ∀ ty dc sc, (Builtin.copy_ #[28, 28] ty #[.slice (some ⟨g, (i + 1) * 2, none⟩) (n - i) dc, .slice (some ⟨g, i * 2, none⟩) (n + 1 - i) sc]).run Try.prog w.drew = .ok (goInt (Nat.min (n + 1 - i) (n - i))) (w.drew.setRow g (splice cur.toList ((i + 1) * 2) (csE encF (L.drop i))).toArray) := fun ty dc sc =>
        run_copy_wide w.drew _ _ ty 86 2 g ((i + 1) * 2) (n - i) dc ⟨g, i * 2, none⟩ (n + 1 - i) sc cur _ (csE encF (L.drop i)) Try.underlying28 hsz2 hg (by rw [hY, show Nat.min (n + 1 - i) (n - i) = n - i from by simp only [Nat.min_def]; split <;> omega])
          (fun j u hj => by rw [Go.WideShapes.add_plain]; exact hsrcY j u hj) hfitY (csE_one encF_one _)
      obtain ⟨W1, hW1⟩ : ∃ W1, W1 = w.drew.setRow g (splice cur.toList ((i + 1) * 2) (csE encF (L.drop i))).toArray := ⟨_, rfl⟩
      have hg1 : W1.heap[g]? = some (.cells (splice cur.toList ((i + 1) * 2) (csE encF (L.drop i))).toArray 86 (0, 0)) := by rw [hW1]; exact setRow_heap w.drew g cur _ _ _ hg
      have hlY : (splice cur.toList ((i + 1) * 2) (csE encF (L.drop i))).length = cur.size := by
        rw [length_splice _ _ _ (by simpa using hfitY)]; simp
      have hb1' : W1.heap[b]? = w.heap[b]? := by rw [hW1]; exact setRow_other w.drew g b _ hbg
      have hcp2 : ∀ ty dc, (Builtin.copy_ #[28, 28] ty #[.slice (some ⟨g, i * 2, none⟩) (n + 1 - i) dc, .slice (some ⟨b, 0, none⟩) 1 1]).run Try.prog W1 = .ok (goInt (Nat.min 1 (n + 1 - i))) (W1.setRow g (splice (splice cur.toList ((i + 1) * 2) (csE encF (L.drop i))) (i * 2) (encF f)).toArray) := fun ty dc => by
        have := run_copy_wide (P := Try.prog) W1 28 28 ty 86 2 g (i * 2) (n + 1 - i) dc ⟨b, 0, none⟩ 1 1 _ _ (encF f) Try.underlying28 hsz2 hg1 (by rw [hXl, show Nat.min 1 (n + 1 - i) = 1 from by simp only [Nat.min_def]; split <;> omega])
          (fun j u hj => by rw [Go.WideShapes.add_plain, World.cell?_of_block (a := ⟨b, 0 + j, none⟩) hb1']; exact hsrcX j u hj) (by rw [List.size_toArray, hlY, hXl, hcs]; omega) (encF_one f)
        simpa using this
      rw [← hW1] at hcp1
      have FIN := Lib.hid (show OwnF (W1.setRow g (splice (splice cur.toList ((i + 1) * 2) (csE encF (L.drop i))) (i * 2) (encF f)).toArray) W.heap.size (.slice (some ⟨g, 0, none⟩) (n + 1) c) (L.take i ++ f :: L.drop i) from by
        refine own_mkF (by simp; omega) (setRow_heap W1 g _ _ _ _ hg1) ?_ hroom hcm hgB ?_
        · rw [List.size_toArray, length_splice _ _ _ (by rw [hlY, hXl, hcs]; omega), hlY, hcs]
        · rw [csE_ins, show (i + 1) * 2 = i * 2 + 2 from by omega, show (n + 1) * 2 = i * 2 + 2 + (n - i) * 2 from by omega]
          exact splice_ba cur.toList _ _ _ (i * 2) 2 ((n - i) * 2) hP (by simp; omega) hXl hY (by simp; omega))
      have FB := Lib.hid (show Bl W (W1.setRow g (splice (splice cur.toList ((i + 1) * 2) (csE encF (L.drop i))) (i * 2) (encF f)).toArray) from by
        rw [hW1]
        exact ((BW.out.drew_).grown_ (setRow_grown _ g _) (fun k hk => by injection hk with hk; rw [← hk]; exact hgB)).grown_ (setRow_grown _ g _) (fun k hk => by injection hk with hk; rw [← hk]; exact hgB))
      clear H1 hA hW hb hbv b0 b1 hn hg hcs ht hP hsrcY hsrcX hi' hz0 hz1 hz2 hfitY hg1 hlY hb1' hsz2 hY hXl hW1 hgA
      go_enter Try.func91, Try.ntmps91
      go_wp2_with (simp only [hov])
      go_region_law (refine step_copy_by rfl (.tmp 73) (.tmp 76) _ _ rfl _ _ (by simp [Act.eval, Act.put]) (by simp [Act.eval, Act.put]) (hcp1 _ _ _) ?_)
      go_wp2_with (at_builtin; refine wpList_copy_by _ rfl (.tmp 80) (.tmp 81) _ _ rfl _ _ rfl rfl (hcp2 _ _) ?_)
      go_ret
      exact ⟨⟨_, rfl, FIN.out⟩, FB.out⟩
    · have hr1 : (c : Int) < (n : Int) + 1 := by omega
      have hnc : n = c := by omega
      have hold : (Builtin.firstCells i0.size i (.slice (some ⟨g, 0, none⟩) i c)).run Try.prog w.drew = .ok (csE encF (L.take i)).toArray w.drew := by
        have hl := run_loadCells_list (P := Try.prog) w.drew ⟨g, 0, none⟩ (csE encF (L.take i)) (fun j u hj => by
          rw [Go.WideShapes.add_plain, Nat.zero_add]
          rw [← hP, List.getElem?_take] at hj
          split at hj
          · have hj' : cur[j]? = some u := by simpa using hj
            show w.cell? _ = _
            simp [World.cell?, hg, hj']
          · cases hj)
        rw [csE_length encF_len, List.length_take, Nat.min_eq_left (by omega)] at hl
        simp [Builtin.firstCells, hz1, hl]
      have hk1 : ((n + 1 - i : Nat) : Int) = (n : Int) + 1 - (i : Int) := by omega
      have hki : i + (n + 1 - i) = n + 1 := by omega
      have hrun : ∀ ty, (Builtin.append_ #[28, 3] ty #[.slice (some ⟨g, 0, none⟩) i c, .int .i64 ((n : Int) + 1 - (i : Int))]).run Try.prog w = .ok (.slice (some ⟨w.heap.size, 0, none⟩) (n + 1) (grownCap w (n + 1) c 86))
          (w.drew.alloc (.cells ((csE encF (L.take i)).toArray ++ Builtin.zeroCells (Value.agg #[.string ⟨#[]⟩, .string ⟨#[]⟩]).cells (n + 1 - i) ++ Builtin.zeroCells (Value.agg #[.string ⟨#[]⟩, .string ⟨#[]⟩]).cells (grownCap w (n + 1) c 86 - (n + 1))) 86)) := fun ty => by
        have := Lib.run_append_grow_zeros (P := Try.prog) w 28 3 ty 86 i0 _ .i64 .i64 Try.underlying28 Try.underlying3 hi' hz0 (some ⟨g, 0, none⟩) i c _ hold (n + 1 - i) (by omega) (by rw [hz1]; omega) (by omega) (by omega) (by rw [hz2]; omega) (growslice_fits (by omega) (by rw [hz2]; omega))
        rw [hki, hk1] at this
        exact this
      obtain ⟨c2, hc2⟩ : ∃ c2, c2 = grownCap w (n + 1) c 86 := ⟨_, rfl⟩
      have hc2n : n + 1 ≤ c2 := by rw [hc2]; exact grownCap_ge w _ _ _
      have hc2m : c2 ≤ maxLen := by rw [hc2]; exact grownCap_le_maxLen w _ _ _ (by unfold maxLen; omega)
      obtain ⟨cu, hcu⟩ : ∃ cu : Array Value, cu = (csE encF (L.take i)).toArray ++ Builtin.zeroCells (Value.agg #[.string ⟨#[]⟩, .string ⟨#[]⟩]).cells (n + 1 - i) ++ Builtin.zeroCells (Value.agg #[.string ⟨#[]⟩, .string ⟨#[]⟩]).cells (grownCap w (n + 1) c 86 - (n + 1)) := ⟨_, rfl⟩
      have hPl : (csE encF (L.take i)).length = i * 2 := by rw [csE_length encF_len, List.length_take, Nat.min_eq_left (by omega)]
      have hcus : cu.size = c2 * 2 := by
        rw [hcu, Array.size_append, Array.size_append, size_zeroF, size_zeroF, List.size_toArray, hPl, ← hc2]; omega
      have hcup : cu.toList.take (i * 2) = csE encF (L.take i) := by
        rw [hcu]
        simp only [Array.toList_append, List.append_assoc]
        rw [List.take_append_of_le_length (by rw [hPl]; exact Nat.le_refl _), List.take_of_length_le (by rw [hPl]; exact Nat.le_refl _)]
      rw [← hc2] at hrun
      rw [← hc2] at hcu
      rw [← hcu] at hrun
      obtain ⟨W0, hW0⟩ : ∃ W0, W0 = w.drew.alloc (.cells cu 86) := ⟨_, rfl⟩
      rw [← hW0] at hrun
      obtain ⟨G, hG⟩ : ∃ G, G = w.heap.size := ⟨_, rfl⟩
      rw [← hG] at hrun
      have hgG : g ≠ G := by omega
      have hbG : b ≠ G := by omega
      have hg0 : W0.heap[G]? = some (.cells cu 86 (0, 0)) := by rw [hW0, hG]; exact heap_alloc_new w.drew _
      have hgW0 : ∀ k, k < w.heap.size → W0.heap[k]? = w.heap[k]? := fun k hk => by rw [hW0]; show (w.heap.push (.cells cu 86))[k]? = w.heap[k]?; rw [Array.getElem?_push, if_neg (Nat.ne_of_lt hk)]
      have hfitX : i * 2 + (encF f).length ≤ cu.size := by rw [hXl, hcus]; omega
      have hcp1 : ∀ ty dc, (Builtin.copy_ #[28, 28] ty #[.slice (some ⟨G, i * 2, none⟩) (n + 1 - i) dc, .slice (some ⟨b, 0, none⟩) 1 1]).run Try.prog W0 = .ok (goInt (Nat.min 1 (n + 1 - i))) (W0.setRow G (splice cu.toList (i * 2) (encF f)).toArray) := fun ty dc =>
        run_copy_wide (P := Try.prog) W0 28 28 ty 86 2 G (i * 2) (n + 1 - i) dc ⟨b, 0, none⟩ 1 1 _ _ (encF f) Try.underlying28 hsz2 hg0 (by rw [hXl, show Nat.min 1 (n + 1 - i) = 1 from by simp only [Nat.min_def]; split <;> omega])
          (fun j u hj => by rw [Go.WideShapes.add_plain, World.cell?_of_block (a := ⟨b, 0 + j, none⟩) (hgW0 b hbl)]; exact hsrcX j u hj) hfitX (encF_one f)
      obtain ⟨W1, hW1⟩ : ∃ W1, W1 = W0.setRow G (splice cu.toList (i * 2) (encF f)).toArray := ⟨_, rfl⟩
      rw [← hW1] at hcp1
      have hg1 : W1.heap[G]? = some (.cells (splice cu.toList (i * 2) (encF f)).toArray 86 (0, 0)) := by rw [hW1]; exact setRow_heap W0 G cu _ _ _ hg0
      have hlX : (splice cu.toList (i * 2) (encF f)).length = cu.size := by
        rw [length_splice _ _ _ (by simpa using hfitX)]; simp
      have hgW1 : W1.heap[g]? = w.heap[g]? := by rw [hW1, setRow_other W0 G g _ hgG]; exact hgW0 g hgl
      have hcp2 : ∀ ty dc sc, (Builtin.copy_ #[28, 28] ty #[.slice (some ⟨G, (i + 1) * 2, none⟩) (n - i) dc, .slice (some ⟨g, i * 2, none⟩) (n - i) sc]).run Try.prog W1.drew = .ok (goInt (Nat.min (n - i) (n - i))) (W1.drew.setRow G (splice (splice cu.toList (i * 2) (encF f)) ((i + 1) * 2) (csE encF (L.drop i))).toArray) := fun ty dc sc => by
        have := run_copy_wide (P := Try.prog) W1.drew 28 28 ty 86 2 G ((i + 1) * 2) (n - i) dc ⟨g, i * 2, none⟩ (n - i) sc _ _ (csE encF (L.drop i)) Try.underlying28 hsz2 (show W1.drew.heap[G]? = _ from hg1) (by rw [hY, show Nat.min (n - i) (n - i) = n - i from by simp only [Nat.min_def]; split <;> omega])
          (fun j u hj => by rw [Go.WideShapes.add_plain, World.cell?_of_block (a := ⟨g, i * 2 + j, none⟩) (show W1.drew.heap[g]? = w.heap[g]? from hgW1)]; exact hsrcY j u hj) (by rw [List.size_toArray, hlX, hY, hcus]; omega) (csE_one encF_one _)
        simpa using this
      have FIN := Lib.hid (show OwnF (W1.drew.setRow G (splice (splice cu.toList (i * 2) (encF f)) ((i + 1) * 2) (csE encF (L.drop i))).toArray) W.heap.size (.slice (some ⟨G, 0, none⟩) (n + 1) c2) (L.take i ++ f :: L.drop i) from by
        refine own_mkF (by simp; omega) (setRow_heap W1.drew G _ _ _ _ (show W1.drew.heap[G]? = _ from hg1)) ?_ hc2n hc2m (by rw [hG]; exact BW.out.size) ?_
        · rw [List.size_toArray, length_splice _ _ _ (by rw [hlX, hY, hcus]; omega), hlX, hcus]
        · rw [csE_ins, show (i + 1) * 2 = i * 2 + 2 from by omega, show (n + 1) * 2 = i * 2 + 2 + (n - i) * 2 from by omega]
          exact splice_ab cu.toList _ _ _ (i * 2) 2 ((n - i) * 2) hcup (by simp; omega) hXl hY (by simp; omega))
      have FB := Lib.hid (show Bl W (W1.drew.setRow G (splice (splice cu.toList (i * 2) (encF f)) ((i + 1) * 2) (csE encF (L.drop i))).toArray) from by
        have hGB : W.heap.size ≤ G := by rw [hG]; exact BW.out.size
        rw [hW1, hW0]
        exact ((((BW.out.drew_).alloc_ _).grown_ (setRow_grown _ G _) (fun k hk => by injection hk with hk; rw [← hk]; exact hGB)).drew_).grown_ (setRow_grown _ G _) (fun k hk => by injection hk with hk; rw [← hk]; exact hGB))
      have hx1 : ¬ c2 = i := by omega
      have hx2 : ¬ c2 = i + 1 := by omega
      clear H1 hA hW hb hbv b0 b1 hn hg hcs ht hP hsrcY hsrcX hi' hz0 hz1 hz2 hfitX hg1 hlX hsz2 hY hXl hW1 hW0 hgA hold hk1 hki hcu hcus hcup hPl hg0 hgW0 hgW1 hG hc2 hnc
      go_enter Try.func91, Try.ntmps91
      go_wp2_with (at_builtin; refine Lib.wpList_append_run _ rfl (.tmp 34) (.tmp 39) 28 3 rfl _ _ rfl rfl _ _ (hrun _) ?_)
      go_wp2_with (at_builtin; refine wpList_copy_by _ rfl (.tmp 43) (.tmp 44) _ _ rfl _ _ rfl rfl (hcp1 _ _) ?_)
      go_wp2
      go_region_law (refine step_copy_by rfl (.tmp 50) (.tmp 53) _ _ rfl _ _ (by simp [Act.eval, Act.put]) (by simp [Act.eval, Act.put]) (hcp2 _ _ _) ?_)
      go_wp2
      go_ret
      exact ⟨⟨_, rfl, FIN.out⟩, FB.out⟩

end Go.Proofs.Ytgfmgmcpfefmkaa
