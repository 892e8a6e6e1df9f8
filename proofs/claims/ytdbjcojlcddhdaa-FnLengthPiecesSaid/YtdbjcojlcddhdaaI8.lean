/-
  What is proved here: whether a list is a heap, as the model and as the code tell it. No conditions beyond those that each theorem states.
-/
import Derived.Test.YtdbjcojlcddhdaaI4
import Derived.Maps.OwnSet
set_option linter.unusedSimpArgs false
set_option linter.unusedVariables false
namespace Go.Proofs.Ytdbjcojlcddhdaa
open Go.RowKit
open Go.ChangeMaps Go.MapKept
open Go.Maps (Keyed IsMap Tidy)

theorem plainElem_bool_inv {H : Type} {P : Program} {e : TypeId} (he : P.underlying e = some .bool) {v : Value} {z : DataW H × List MemPlace} (h : plainElem P e v = some z) : ∃ x, v = .bool x ∧ z = (.lit (.bool x), []) := by
  unfold plainElem at h
  rw [he] at h
  cases v <;> simp at h
  exact ⟨_, rfl, h.symm⟩
theorem ownsMap_lookup_bool {H : Type} {P : Program} {w : World} {b n : Nat} {k : TypeId} {D : DataW H} {t e : TypeId} (h : w.ownsMap P k (plainElem P e) b n D) (K : Keyed P k) (ht : P.underlying t = some (.map k e)) (he : P.underlying e = some .bool) (hz : (zeroValue e).run P w = .ok (.bool false) w)
    {key : Value} {kl : Lit} (hkey : keyOf P k key = some kl) : ∃ c, (Instr.lookup t (.map (some b)) key false).run P w = .ok (.bool c) w ∧ D.atKey kl (.lit (.bool false)) = .lit (.bool c) := by
  obtain ⟨v, ps, hrun, hv⟩ := h.lookup K ht hz (plainElem_bool he false) hkey
  obtain ⟨c, rfl, hc⟩ := plainElem_bool_inv he hv
  simp only [Prod.mk.injEq] at hc
  exact ⟨c, hrun, hc.1⟩
theorem wpList_lookup_own_bool {H : Type} {P : Program} (w : World) {ops : Array Oper} {rest : List Oper} {o : Oper} {a : Act} {Q : Exit → Act → World → Prop}
    (hg : o.guard = none) (m x : Operand) (t : TypeId) (hop : o.op = Op.lookup t m x false)
    (k e : TypeId) (K : Keyed P k) (ht : P.underlying t = some (.map k e)) (he : P.underlying e = some .bool) (hz : (zeroValue e).run P w = .ok (.bool false) w) (b n : Nat) (D : DataW H)
    (hm : a.eval m = .map (some b)) (hown : w.ownsMap P k (plainElem P e) b n D) (key : Value) (kl : Lit) (hx : a.eval x = key) (hkey : keyOf P k key = some kl)
    (hK : ∀ c : Bool, D.atKey kl (.lit (.bool false)) = .lit (.bool c) → wpList P ops Q rest (a.put o.dst (.bool c)) w) :
    wpList P ops Q (o :: rest) a w := by
  refine wpList_plain hg fun K' hK' => ?_
  obtain ⟨c, hrun, hat⟩ := ownsMap_lookup_bool hown K ht he hz hkey
  unfold Oper.wp
  simp [execOp, hop, hm, hx, hrun, Result.andThen]
  exact hK' _ _ (hK c hat)

/-- The set of ids of the first k items, as a map to true. -/
def seenD (L : List It) : Nat → DataW Unit
  | 0 => .map []
  | k + 1 => (seenD L k).put (.int .i64 (atI L k).2) (.lit (.bool true))
theorem seenD_isMap (L : List It) : ∀ k, IsMap (seenD L k)
  | 0 => ⟨[], rfl⟩
  | k + 1 => (seenD_isMap L k).put _ _
theorem seenD_at (L : List It) (id : Int) : ∀ k, (seenD L k).atKey (.int .i64 id) (.lit (.bool false)) = .lit (.bool (!(List.range k).all fun j => (atI L j).2 != id))
  | 0 => rfl
  | k + 1 => by
    unfold seenD
    by_cases h : (atI L k).2 = id
    · subst h
      rw [Maps.atKey_put_same (seenD_isMap L k) (by simp [WideAt.IsKeyLit])]
      simp [List.range_succ, List.all_append]
    · rw [Maps.atKey_put_other (by intro e; injection e with _ e; exact h e.symm), seenD_at L id k]
      simp [List.range_succ, List.all_append, h]

/-- All ids are numbers of 64 bits. -/
def WfI (L : List It) : Prop := ∀ k, (Lit.int .i64 (atI L k).2).wf = true
theorem zeroBool (w : World) : (zeroValue 4).run Try.prog w = .ok (.bool false) w := by kernel_rfl
theorem keyedInt : Keyed Try.prog 2 := Maps.int_keyed Try.underlying2

theorem run_makeMap_hint (n : Int) (w : World) : (Instr.makeMap 137 (some (.int .i64 n))).run Try.prog w = .ok (.map (some w.heap.size)) (w.alloc (.map #[] 0)) := by
  simp [Instr.makeMap, run_underlying Try.underlying137, asInt, asIntOf, Result.andThen]

set_option maxHeartbeats 1000000 in
theorem unlikeIds_any (A : Option Addr) (n c : Nat) (L : List It) (hn : n = L.length) (w : World) (hm : n ≤ 1048576) (hwf : WfI L) (H1 : ItemsAt w w.heap.size A L) :
    Calls Try.prog 103 #[.slice A n c] w fun e w' => e = .returned (.bool (idsI L n)) ∧ Bl w w' := by
  have K1 := Lib.hid H1
  have HN := Lib.hid hn
  have HW := Lib.hid hwf
  clear H1 hn hwf
  have hmm := run_makeMap_hint
  go_enter Try.func103, Try.ntmps103
  go_wp2
  clear hmm
  go_loopw [11] (fun i wr => ∃ k : Nat, k ≤ n ∧ i = .int .i64 k ∧ Bl w wr ∧ wr.ownsMap Try.prog 2 (plainElem Try.prog 4) w.heap.size k (seenD L k) ∧ idsI L k = true) (fun i _ => n - (intOf i).toNat)
  case atStart => exact ⟨0, by omega, rfl, (by repeat' (first | exact Bl.refl _ | with_reducible assumption | with_reducible refine Bl.drew_ ?_ | with_reducible refine Bl.drewN_ ?_ _ | with_reducible refine Bl.alloc_ ?_ _ | with_reducible refine Bl.trans_ ?_ (by assumption) | with_reducible refine Bl.trans_ ?_ (And.left (by assumption)))), World.ownsMap_made _ _ _ _, rfl⟩
  case round =>
    obtain ⟨k, hk, rfl, hbl, hown, hids⟩ := hrel
    have O := Lib.hid hown
    have ID := Lib.hid hids
    clear hown hids
    by_cases hlt : k < n
    · have hkl : k < L.length := by have := HN.out; omega
      obtain ⟨g1, o1, rfl, hg1, hc1⟩ := K1.out.cell (by omega)
      obtain ⟨p1, p2⟩ := hc1 k hkl
      rw [← (bcell hbl).1 _ _ hg1] at p1 p2
      clear hc1
      have hs := hbl.size
      have hx : L[k].2 = (atI L k).2 := by rw [atI_eq hkl]
      rw [hx] at p2
      generalize L[k].1 = x at p1
      generalize hy : (atI L k).2 = y at p2
      have HY := Lib.hid hy
      have WY := Lib.hid (show (Lit.int .i64 y).wf = true from by rw [← hy]; exact HW.out k)
      clear hx hy
      have hcur := Lib.hid (World.ownsMap.alloc O.out (.cells #[.int .i64 x, .int .i64 y] 58))
      have hat0 := seenD_at L y k
      have hnw : newI L k k = (List.range k).all (fun j => (atI L j).2 != y) := by unfold newI; rw [HY.out]
      rw [← hnw] at hat0
      clear hnw
      cases hnb : newI L k k with
      | true =>
        have HAT := Lib.hid (show ∀ c : Bool, (seenD L k).atKey (.int .i64 y) (.lit (.bool false)) = .lit (.bool c) → c = false from fun c h => by rw [hat0, hnb] at h; simpa using h.symm)
        have NB := Lib.hid hnb
        clear hat0 hnb
        go_wp2_with (first | (at_lookup; refine wpList_lookup_own_bool _ rfl _ _ 137 rfl 2 4 keyedInt Try.underlying137 Try.underlying4 (zeroBool _) w.heap.size k _ rfl hcur.out _ _ rfl (Maps.keyOf_int_mk Try.underlying2 WY.out) ?_; intro c hat; obtain rfl : c = false := HAT.out c hat; clear hat) | (at_mapUpdate; refine wpList_mapUpdate_own _ rfl _ _ _ 137 rfl 2 4 keyedInt Try.underlying137 _ w.heap.size k _ rfl hcur.out (by unfold maxLen; omega) _ _ _ rfl rfl (Maps.keyOf_int_mk Try.underlying2 WY.out) _ [] (plainElem_bool Try.underlying4 true) ?_; intro w1 hown1 hgrown1))
        have O1 := Lib.hid hown1
        have B1 : Bl w w1 := (hbl.alloc_ _).grown_ hgrown1 (fun g hg => by injection hg with hg; omega)
        clear hown1 hgrown1
        go_wp2
        go_roundw
        case rel => exact ⟨k + 1, by omega, by go_num, B1, by unfold seenD; rw [HY.out]; exact O1.out, by rw [idsI_succ, ID.out, NB.out]; rfl⟩
        case measure => simp [intOf]; omega
      | false =>
        have HAT := Lib.hid (show ∀ c : Bool, (seenD L k).atKey (.int .i64 y) (.lit (.bool false)) = .lit (.bool c) → c = true from fun c h => by rw [hat0, hnb] at h; simpa using h.symm)
        have NB := Lib.hid hnb
        clear hat0 hnb
        go_wp2_with (at_lookup; refine wpList_lookup_own_bool _ rfl _ _ 137 rfl 2 4 keyedInt Try.underlying137 Try.underlying4 (zeroBool _) w.heap.size k _ rfl hcur.out _ _ rfl (Maps.keyOf_int_mk Try.underlying2 WY.out) ?_; intro c hat; obtain rfl : c = true := HAT.out c hat; clear hat)
        go_ret
        exact ⟨ret_bool (idsI_false hlt NB.out).symm, hbl.alloc_ _⟩
    · have e : k = n := by omega
      subst e
      go_wp2
      go_ret
      exact ⟨ret_bool ID.out.symm, hbl⟩

end Go.Proofs.Ytdbjcojlcddhdaa
