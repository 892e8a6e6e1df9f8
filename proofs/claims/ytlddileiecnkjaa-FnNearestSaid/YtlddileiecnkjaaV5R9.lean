/-
  What is proved here: whatever bytes come in read as bytes. No conditions. No conditions beyond those that each theorem states.
-/
import Derived.Test.YtlddileiecnkjaaV5RB
import Derived.Test.YtlddileiecnkjaaV5Z0
set_option linter.unusedSimpArgs false
set_option linter.unusedVariables false
namespace Go.Proofs.Ytlddileiecnkjaa
open Go.ChangeShapes Go.WideShapes Go.ChangeAt Go.RowKit

theorem wf_u8_bounds {b : Int} (h : (Lit.int .u8 b).wf = true) : 0 ≤ b ∧ b ≤ 255 := by
  have := bounds_u8 h
  omega
set_option maxRecDepth 100000 in
theorem open_bytes {H : Type} {enc : TypeId × Value → H} {W : World} {r : Reach} {b0 : Nat} {v : Value} {d : DataW H} {p : List MemPlace} (hv : Value.okWide Try.prog W r b0 22 v)
    (h : DataW.Trod enc Try.prog W 0 (fun _ => true) true 22 v d p) :
    ∃ (A : Option Addr) (n c : Nat), v = .slice A n c ∧ BytesAt W A n ∧ (0 < n → ∀ g, blockOf A = some g → g < W.heap.size) := by
  obtain ⟨a0, len0, cap0, rfl⟩ := okWide_slice Try.underlying22 hv
  obtain ⟨m0, ht1⟩ := h
  have key : BytesAt W a0 len0 := by
    rcases open_ints Try.underlying22 Try.underlying5 (by kernel_rfl) ht1 with ⟨hcs, _⟩ | ⟨a, len, cap, zs, hcs, _, hl, hcap, hzs, _, hcell, hwf⟩
    · have hcs' : [Value.slice a0 len0 cap0] = [.slice none 0 0] := hcs
      simp only [List.cons.injEq, and_true, Value.slice.injEq] at hcs'
      obtain ⟨rfl, rfl, rfl⟩ := hcs'
      exact fun h0 => absurd h0 (by omega)
    · have hcs' : [Value.slice a0 len0 cap0] = [.slice (some a) len cap] := hcs
      simp only [List.cons.injEq, and_true, Value.slice.injEq] at hcs'
      obtain ⟨rfl, rfl, rfl⟩ := hcs'
      intro h0
      have hz : len0 ≤ zs.length := by rw [hzs]; simp; omega
      obtain ⟨b, off, spot⟩ := a
      have hc0 := hcell 0 (by omega)
      have hspot : spot = none := by simpa [Addr.add] using World.cell?_spot hc0
      subst hspot
      refine ⟨b, off, rfl, ?_, fun j hj => ?_⟩
      · have := World.block_lt_of_cell? _ _ hc0
        simpa [Addr.add] using this
      · have hc := hcell j (by omega)
        rw [Go.WideShapes.add_plain] at hc
        refine ⟨_, hc, wf_u8_bounds (hwf _ ?_)⟩
        rw [List.getD_eq_getElem?_getD, List.getElem?_eq_getElem (by omega)]
        exact List.getElem_mem _
  exact ⟨a0, len0, cap0, rfl, key, fun h0 g hg => by
    obtain ⟨g', off, rfl, hlt, _⟩ := key h0
    simp [blockOf] at hg
    omega⟩

end Go.Proofs.Ytlddileiecnkjaa
