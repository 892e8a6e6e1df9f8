/-
  What is proved here: files and ops that are appended to a list of one's own. No conditions beyond those that each theorem states.
-/
import Derived.Test.YtipmjgciaalmbaaDKM
set_option linter.unusedSimpArgs false
set_option linter.unusedVariables false
namespace Go.Proofs.Ytipmjgciaalmbaa
open Go.RowKit


theorem own_snocFile {w : World} {B : Nat} {v : Value} {V : List Fl} {f : Fl} (h : w.ownsRow B 89 2 v (V.length + 1) (csE encF V ++ encF f)) : OwnF w B v (V ++ [f]) := by
  unfold OwnF
  have e : csE encF (V ++ [f]) = csE encF V ++ encF f := by rw [csE_append]; simp [csE]
  rw [e, show (V ++ [f]).length = V.length + 1 from by simp]
  exact h

set_option maxHeartbeats 1000000 in
theorem wp_append_File {ops : Array Oper} {rest : List Oper} {o : Oper} {a : Act} {Q : Exit → Act → World → Prop} (hgd : o.guard = none) (s x : Operand)
    (ho : o.op = .call { callee := .builtin .append, args := #[s, x], argTypes := #[28, 28] })
    (w : World) (B : Nat) (v : Value) (V : List Fl) (f : Fl) (ty : TypeId) (hs : a.eval s = v) (hx : a.eval x = .slice (some ⟨w.heap.size, 0, none⟩) 1 1)
    (hO : OwnF w B v V) (hl : V.length ≤ 1048575) (hB : B ≤ w.heap.size)
    (h : ∀ v' w', OwnF w' B v' (V ++ [f]) → (∀ W : World, Bl W w → W.heap.size ≤ B → Bl W w') → wpList Try.prog ops Q rest (a.put o.dst v') w') :
    wpList Try.prog ops Q (o :: rest) a (w.alloc (.cells #[.string f.1, .string f.2] ty)) := by
  obtain ⟨i0, hi, hz0, hz1, hz2⟩ := info_parts infoFile
  have hO' : w.ownsRow B 89 2 v V.length (csE encF V) := hO
  refine wpList_append_own_at _ hgd s x _ ho B 89 i0 _ 2 32 Try.underlying28 hi hz0 hz1 hz2 rfl (by decide) v V.length (csE encF V) hs (World.ownsRow.alloc hO' _) ⟨w.heap.size, 0, none⟩ 1 1 (encF f) hx rfl ?_ (encF_one f) (by unfold maxLen; omega) (by omega) (by simp; omega) ?_
  · intro j u hj
    have hj' : j < 2 := (List.getElem?_eq_some_iff.1 hj).1
    rw [Go.WideShapes.add_plain, Nat.zero_add]
    have hc : (#[.string f.1, .string f.2] : Array Value)[j]? = some u := by
      rw [← hj]
      unfold encF
      simp
    rw [World.cell?_alloc_mark]
    exact hc
  · intro v' w' h1 h2 _ _
    refine h v' w' (own_snocFile h1) fun W hW hWB => ?_
    refine (hW.alloc_ _).grown_ h2 fun g hg => ?_
    have := (World.ownsRow.lt hO' g hg).1
    omega

theorem wp_copy_File {ops : Array Oper} {rest : List Oper} {o : Oper} {a : Act} {Q : Exit → Act → World → Prop} (hgd : o.guard = none) (s x : Operand)
    (ho : o.op = .call { callee := .builtin .append, args := #[s, x], argTypes := #[28, 28] })
    (w : World) (B : Nat) (v : Value) (A : Option Addr) (n c : Nat) (L : List Fl) (hs : a.eval s = v) (hx : a.eval x = .slice A n c) (hO : OwnF w B v []) (hB : B ≤ w.heap.size) (hn : n = L.length) (hm : n ≤ 1048576) (H : FilesAt w w.heap.size A L)
    (h : ∀ v' w', OwnF w' B v' L → (∀ W : World, Bl W w → W.heap.size ≤ B → Bl W w') → wpList Try.prog ops Q rest (a.put o.dst v') w') :
    wpList Try.prog ops Q (o :: rest) a w := by
  obtain ⟨i0, hi, hz0, hz1, hz2⟩ := info_parts infoFile
  have hO' : w.ownsRow B 89 2 v 0 [] := hO
  have hr : Reads w w.heap.size 2 A n (csE encF L) := reads_of_cells H (by rw [csE_length encF_len, hn]) (by omega)
  refine wpList_append_any w hgd s x _ ho B 89 i0 _ 2 32 Try.underlying28 hi hz0 hz1 hz2 rfl (by decide) v 0 [] hs hO' w.heap.size A n c (csE encF L) hx hr (csE_one encF_one L) (by unfold maxLen; omega) (by omega) hB ?_
  intro v' w' h1 h2 _
  refine h v' w' ?_ fun W hW hWB => hW.grown_ h2 fun g hg => ?_
  · unfold OwnF Owns
    rw [← hn]
    simpa using h1
  · have := (World.ownsRow.lt hO' g hg).1
    omega

theorem own_snocDOp {w : World} {B : Nat} {v : Value} {V : List Dp} {f : Dp} (h : w.ownsRow B 45 4 v (V.length + 1) (csE encO V ++ encO f)) : OwnO w B v (V ++ [f]) := by
  unfold OwnO
  have e : csE encO (V ++ [f]) = csE encO V ++ encO f := by rw [csE_append]; simp [csE]
  rw [e, show (V ++ [f]).length = V.length + 1 from by simp]
  exact h

set_option maxHeartbeats 1000000 in
theorem wp_append_DOp {ops : Array Oper} {rest : List Oper} {o : Oper} {a : Act} {Q : Exit → Act → World → Prop} (hgd : o.guard = none) (s x : Operand)
    (ho : o.op = .call { callee := .builtin .append, args := #[s, x], argTypes := #[29, 29] })
    (w : World) (B : Nat) (v : Value) (V : List Dp) (f : Dp) (ty : TypeId) (hs : a.eval s = v) (hx : a.eval x = .slice (some ⟨w.heap.size, 0, none⟩) 1 1)
    (hO : OwnO w B v V) (hl : V.length ≤ 1048575) (hB : B ≤ w.heap.size)
    (h : ∀ v' w', OwnO w' B v' (V ++ [f]) → (∀ W : World, Bl W w → W.heap.size ≤ B → Bl W w') → wpList Try.prog ops Q rest (a.put o.dst v') w') :
    wpList Try.prog ops Q (o :: rest) a (w.alloc (.cells #[.int .i64 f.kind, .string f.name, .string f.to, .string f.data] ty)) := by
  obtain ⟨i0, hi, hz0, hz1, hz2⟩ := info_parts infoDOp
  have hO' : w.ownsRow B 45 4 v V.length (csE encO V) := hO
  refine wpList_append_own_at _ hgd s x _ ho B 45 i0 _ 4 56 Try.underlying29 hi hz0 hz1 hz2 rfl (by decide) v V.length (csE encO V) hs (World.ownsRow.alloc hO' _) ⟨w.heap.size, 0, none⟩ 1 1 (encO f) hx rfl ?_ (encO_one f) (by unfold maxLen; omega) (by omega) (by simp; omega) ?_
  · intro j u hj
    have hj' : j < 4 := (List.getElem?_eq_some_iff.1 hj).1
    rw [Go.WideShapes.add_plain, Nat.zero_add]
    have hc : (#[.int .i64 f.kind, .string f.name, .string f.to, .string f.data] : Array Value)[j]? = some u := by
      rw [← hj]
      unfold encO
      simp
    rw [World.cell?_alloc_mark]
    exact hc
  · intro v' w' h1 h2 _ _
    refine h v' w' (own_snocDOp h1) fun W hW hWB => ?_
    refine (hW.alloc_ _).grown_ h2 fun g hg => ?_
    have := (World.ownsRow.lt hO' g hg).1
    omega

theorem wp_copy_DOp {ops : Array Oper} {rest : List Oper} {o : Oper} {a : Act} {Q : Exit → Act → World → Prop} (hgd : o.guard = none) (s x : Operand)
    (ho : o.op = .call { callee := .builtin .append, args := #[s, x], argTypes := #[29, 29] })
    (w : World) (B : Nat) (v : Value) (A : Option Addr) (n c : Nat) (L : List Dp) (hs : a.eval s = v) (hx : a.eval x = .slice A n c) (hO : OwnO w B v []) (hB : B ≤ w.heap.size) (hn : n = L.length) (hm : n ≤ 1048576) (H : OpsAt w w.heap.size A L)
    (h : ∀ v' w', OwnO w' B v' L → (∀ W : World, Bl W w → W.heap.size ≤ B → Bl W w') → wpList Try.prog ops Q rest (a.put o.dst v') w') :
    wpList Try.prog ops Q (o :: rest) a w := by
  obtain ⟨i0, hi, hz0, hz1, hz2⟩ := info_parts infoDOp
  have hO' : w.ownsRow B 45 4 v 0 [] := hO
  have hr : Reads w w.heap.size 4 A n (csE encO L) := reads_of_cells H (by rw [csE_length encO_len, hn]) (by omega)
  refine wpList_append_any w hgd s x _ ho B 45 i0 _ 4 56 Try.underlying29 hi hz0 hz1 hz2 rfl (by decide) v 0 [] hs hO' w.heap.size A n c (csE encO L) hx hr (csE_one encO_one L) (by unfold maxLen; omega) (by omega) hB ?_
  intro v' w' h1 h2 _
  refine h v' w' ?_ fun W hW hWB => hW.grown_ h2 fun g hg => ?_
  · unfold OwnO Owns
    rw [← hn]
    simpa using h1
  · have := (World.ownsRow.lt hO' g hg).1
    omega

end Go.Proofs.Ytipmjgciaalmbaa
