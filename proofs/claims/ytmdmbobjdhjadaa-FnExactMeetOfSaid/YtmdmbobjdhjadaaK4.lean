/-
  What is proved here: what a half that comes in is made of. No conditions.
-/
import Derived.Test.YtmdmbobjdhjadaaK3
import Derived.Test.YtmdmbobjdhjadaaRows
set_option linter.unusedSimpArgs false
set_option linter.unusedVariables false
namespace Go.Proofs.Ytmdmbobjdhjadaa
open Go.ChangeShapes Go.WideShapes Go.ChangeAt Go.RowKit Go.Deep Go.Joins

theorem open_cells {H : Type} {enc : TypeId × Value → H} {W : World} {v : Value} {y : DataW H × List MemPlace} {m0 : Nat} (ht : DataW.trod enc Try.prog W 0 (fun _ => true) true m0 22 [v] = some y) :
    ∃ (A : Option Addr) (n c : Nat) (V : List Int), v = .slice A n c ∧ n = V.length ∧ n ≤ 9223372036854775807 ∧ IntsAt W W.heap.size A V := by
  rcases open_ints Try.underlying22 Try.underlying2 (by kernel_rfl) ht with ⟨hcs, _⟩ | ⟨a, len, cap, zs, hcs, _, hl, hcap, hzs, hmax, hcell, hwf⟩
  · simp only [List.cons.injEq, and_true] at hcs
    subst hcs
    exact ⟨none, 0, 0, [], rfl, rfl, by omega, CellsAt.nil_ _ _ _⟩
  · simp only [List.cons.injEq, and_true] at hcs
    subst hcs
    have hz : len ≤ zs.length := by rw [hzs]; simp; omega
    refine ⟨some a, len, cap, zs.take len, rfl, by rw [List.length_take]; omega, by first | omega | (unfold maxLen at *; omega), fun h0 => ?_⟩
    rw [csI_len, List.length_take] at h0
    obtain ⟨b, off, spot⟩ := a
    have hc0 := hcell 0 (by omega)
    have hspot : spot = none := by simpa [Addr.add] using World.cell?_spot hc0
    subst hspot
    refine ⟨b, off, rfl, ?_, fun j hj => ?_⟩
    · have := World.block_lt_of_cell? _ _ hc0
      simpa [Addr.add] using this
    · rw [csI_len, List.length_take] at hj
      have hc := hcell j (by omega)
      rw [Go.WideShapes.add_plain] at hc
      rw [hc, csI_at, List.getElem_take, List.getD_eq_getElem?_getD, List.getElem?_eq_getElem (by omega)]
      rfl

set_option maxRecDepth 100000 in
theorem open_half {H : Type} {enc : TypeId × Value → H} {W : World} {r : Reach} {b0 : Nat} {v : Value} {d : DataW H} {p : List MemPlace} (hv : Value.okWide Try.prog W r b0 70 v)
    (h : DataW.Trod enc Try.prog W 0 (fun _ => true) true 70 v d p) :
    ∃ (A B : Option Addr) (n c m c' : Nat) (D E : List Int) (x : Int), v = .agg #[.slice A n c, .slice B m c', .int .i64 x] ∧ n = D.length ∧ m = E.length ∧ n ≤ 9223372036854775807 ∧ m ≤ 9223372036854775807 ∧ IntsAt W W.heap.size A D ∧ IntsAt W W.heap.size B E := by
  obtain ⟨c0, c1, c2, y0, y1, y2, mm, rfl, _, _, ht0, ht1, ht2⟩ := open_agg3 Try.underlying70 (by kernel_rfl) (by kernel_rfl) hv h
  obtain ⟨A, n, c, D, rfl, h1, h2, h3⟩ := open_cells ht0
  obtain ⟨B, m, c', E, rfl, h4, h5, h6⟩ := open_cells ht1
  obtain ⟨x, e0, _, _⟩ := DataW.trod_int Try.underlying2 ht2
  simp only [List.cons.injEq, and_true] at e0
  subst e0
  exact ⟨A, B, n, c, m, c', D, E, x, rfl, h1, h4, h2, h5, h3, h6⟩

end Go.Proofs.Ytmdmbobjdhjadaa
