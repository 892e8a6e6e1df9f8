/-
  What is proved here: impl.Weighed puts an arc of a new weight in its place. No conditions beyond those that each theorem states.
-/
import Derived.Test.YtffjpfanmnkmgaaG1
import Derived.Test.YtffjpfanmnkmgaaM1g
set_option linter.unusedSimpArgs false
set_option linter.unusedVariables false
namespace Go.Proofs.Ytffjpfanmnkmgaa
open Go.RowKit

/-- May an arc be weighed so? -/
def weighedB (N : Int) (L : List Arc3) (u v x : Int) : Bool := okB N L && pairB N u v && inB x 0 1000 && okB N (weighedL u v x L)
/-- A graph and a flag are left; zero where the flag is false. -/
def WRes (ok : Bool) (N : Int) (M : List Arc3) (w : World) (e : Ending) (w' : World) : Prop :=
  ∃ v, e = .returned (.tuple #[.agg #[.int .i64 (if ok = true then N else 0), v], .bool ok]) ∧ OwnA w' w.heap.size v (if ok = true then M else []) ∧ Bl w w'
theorem WRes.no {N : Int} {M : List Arc3} {w w' : World} {ok : Bool} (h : ok = false) (hb : Bl w w') : WRes ok N M w (.returned (.tuple #[.agg #[.int .i64 0, .slice none 0 0], .bool false])) w' := by
  subst h
  exact ⟨_, rfl, OwnA.nil_ _ _, hb⟩

theorem ArcsAt.take_ {w : World} {B : Nat} {A : Option Addr} {L : List Arc3} (h : ArcsAt w B A L) (p : Nat) : ArcsAt w B A (L.take p) := fun h0 => by
  obtain ⟨g, off, e, hg, hc⟩ := h (by rw [List.length_take] at h0; omega)
  refine ⟨g, off, e, hg, fun k hk => ?_⟩
  rw [List.getElem_take]
  exact hc k (by rw [List.length_take] at hk; omega)
theorem ArcsAt.drop_ {w : World} {B : Nat} {A : Option Addr} {L : List Arc3} (h : ArcsAt w B A L) {b c : Nat} (hc : L.length ≤ c) (A' : Option Addr) (hA : A' = if c = b then A else A.map (fun a => a.add (b * 3))) : ArcsAt w B A' (L.drop b) := fun h0 => by
  rw [List.length_drop] at h0
  obtain ⟨g, off, rfl, hg, hcell⟩ := h (by omega)
  rw [if_neg (by omega)] at hA
  subst hA
  refine ⟨g, off + b * 3, by rw [Option.map_some, add_none], hg, fun k hk => ?_⟩
  rw [List.getElem_drop]
  have := hcell (b + k) (by rw [List.length_drop] at hk; omega)
  rw [show off + (b + k) * 3 = off + b * 3 + k * 3 from by omega] at this
  exact this

theorem OwnA.set_ {w : World} {B : Nat} {v : Value} {L : List Arc3} (h : OwnA w B v L) {p : Addr} (hp : p.block < B) (u : Value) : OwnA (w.setCell p u) B v L :=
  ⟨h.1, h.2.imp id (fun ⟨g, cap, cur, a, b, c, d⟩ => ⟨g, cap, cur, a, b, (Below.heap_setCell w p u g (by omega)).trans c, d⟩)⟩
theorem arcs_one {w wx : World} {a : Arc3} {t : TypeId} (h : Bl (w.alloc (.cells #[.int .i64 a.1, .int .i64 a.2.1, .int .i64 a.2.2] t)) wx) : ArcsAt wx wx.heap.size (some ⟨w.heap.size, 0, none⟩) [a] := fun _ => by
  obtain ⟨b0, b1, b2⟩ := box3 h
  have hs := h.size
  refine ⟨w.heap.size, 0, rfl, by simp at hs; omega, fun k hk => ?_⟩
  have : k = 0 := by simpa using hk
  subst this
  simp only [Nat.zero_mul, Nat.zero_add, List.getElem_cons_zero]
  exact ⟨b0, b1, b2⟩

theorem box22 {w wx : World} {a b c d : Value} {t : TypeId} (h : Bl ((w.alloc (.cells #[a, b] t)).alloc (.cells #[c, d] t)) wx) :
    wx.cell? ⟨w.heap.size, 0, none⟩ = some a ∧ wx.cell? ⟨w.heap.size, 1, none⟩ = some b ∧ wx.cell? ⟨w.heap.size + 1, 0, none⟩ = some c ∧ wx.cell? ⟨w.heap.size + 1, 1, none⟩ = some d ∧
      wx.frozen? ⟨w.heap.size + 1, 0, none⟩ = false ∧ wx.frozen? ⟨w.heap.size + 1, 1, none⟩ = false ∧ w.heap.size + 1 < wx.heap.size := by
  obtain ⟨hc, hf⟩ := bcell h
  have hs := h.size
  refine ⟨?_, ?_, ?_, ?_, ?_, ?_, by simp at hs; omega⟩
  · rw [hc _ _ (by simp; omega)]; simp [go_sem]
  · rw [hc _ _ (by simp; omega)]; simp [go_sem]
  · rw [hc _ _ (by simp)]; simp [go_sem]
  · rw [hc _ _ (by simp)]; simp [go_sem]
  · rw [hf _ _ (by simp)]; simp [go_sem]
  · rw [hf _ _ (by simp)]; simp [go_sem]

-- (implWeighed_any left out)

end Go.Proofs.Ytffjpfanmnkmgaa
