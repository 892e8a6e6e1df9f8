/-
  What is proved here: the law FnPush: what is pushed is there with all others, in a heap. No conditions beyond those that each theorem states.
-/
import Derived.Test.YtnpngkppbmndiabR3
set_option linter.unusedSimpArgs false
set_option linter.unusedVariables false
namespace Go.Proofs.Ytnpngkppbmndiab
open Go.RowKit

/-- Items and one more that are drawn by a code. -/
def DrawnP (w : World) (e : Ending) (w' : World) : Prop :=
  ∃ v L x y, e = .returned (.tuple #[v, .agg #[.int .i64 x, .int .i64 y]]) ∧ OwnI w' w.heap.size v L ∧ WfL L ∧ L.length ≤ 20 ∧ (Lit.int .i64 x).wf = true ∧ (Lit.int .i64 y).wf = true ∧ Bl w w'

set_option maxRecDepth 100000 in
set_option maxHeartbeats 1000000 in
theorem drawHeapPush_any (A : Option Addr) (n c : Nat) (w : World) (hn : n ≤ 1099511627776) (H : BytesAt w A n) (hA : 0 < n → ∀ g, blockOf A = some g → g < w.heap.size) :
    Calls Try.prog 30 #[.slice A n c] w (DrawnP w) := by
  have K := Lib.hid H
  have HA := Lib.hid hA
  clear H hA
  go_enter Try.func30, Try.ntmps30
  go_wp2_with fail
  refine (open_any A n c _ (K.out.bl (by repeat' (first | exact Bl.refl _ | with_reducible assumption | with_reducible refine Bl.drew_ ?_ | with_reducible refine Bl.drewN_ ?_ _ | with_reducible refine Bl.alloc_ ?_ _ | with_reducible refine Bl.trans_ ?_ (by assumption) | with_reducible refine Bl.trans_ ?_ (And.left (by assumption)))))).mono ?_
  rintro e w1 ⟨rfl, hr, hb, hlt⟩
  have R1 := Lib.hid (show RdAny w1 (w.heap.size + 1) A n c from by rw [World.size_alloc] at hr; exact hr)
  have B1 := Lib.hid hb
  have s1 := hb.size
  simp at s1 hlt
  clear hr hb
  go_wp2_with fail
  refine (drawHeapOk_any A n c _ hn (K.out.bl (((Bl.refl w).alloc_ _).trans_ B1.out)) (fun h0 g h => by have := HA.out h0 g h; omega)).mono ?_
  rintro e w2 ⟨v, L, rfl, hO, hwf, hl, hb⟩
  have O2 := Lib.hid hO
  have WF := Lib.hid hwf
  have B2 := Lib.hid (B1.out.trans_ hb)
  have R2 := Lib.hid (R1.out.bl hb)
  have s2 := hb.size
  have VL := Lib.hid (Owns.lt hO)
  obtain ⟨A1, c1, rfl, -⟩ := Owns.shape hO
  clear hO hwf hb
  go_wp2_with fail
  refine (off_any 0 9 (w.heap.size + 1) A n c _ hn (by omega) (by omega) (by omega) (by omega) R2.out).mono ?_
  rintro e w3 ⟨x, hx, rfl, hr, hg⟩
  have R3 := Lib.hid hr
  have X := Lib.hid hx
  have G3 := Lib.hid hg
  have s3 := hg.size
  clear hr hx hg
  go_wp2_with fail
  refine (below_any 20 (w.heap.size + 1) A n c _ hn (by omega) R3.out).mono ?_
  rintro e w4 ⟨y, ⟨y0, y1⟩, rfl, hr, hg⟩
  have G4 := Lib.hid (grown_trans G3.out hg)
  have s4 := hg.size
  have B4 := Lib.hid (B2.out.grown_ G4.out (fun g h => by simp at h; simp; omega))
  obtain ⟨q0, q1⟩ := box2 B4.out
  have f0 := ((bcell B4.out).2 w.heap.size 0 (by simp)).trans (show _ = false from by simp [go_sem])
  have f1 := ((bcell B4.out).2 w.heap.size 1 (by simp)).trans (show _ = false from by simp [go_sem])
  have O4 := Lib.hid (Owns.grown_ O2.out G4.out (fun g h => by have := (VL.out g h).1; simp; omega))
  clear hr hg
  go_wp2
  refine bodyPost_ret (v := .tuple #[.slice A1 L.length c1, .agg #[.int .i64 x, .int .i64 y]]) (by simp [results, Try.results30, go_sem, q0, q1]) rfl ⟨_, L, x, y, rfl, ?_, WF.out, hl, ?_, ?_, ?_⟩
  · refine Owns.setOther (Owns.setOther (Owns.low O4.out (by omega)) ?_ _) ?_ _
    · intro g e; have := (Owns.lt O4.out g e).1; show g ≠ w.heap.size; omega
    · intro g e; have := (Owns.lt O4.out g e).1; show g ≠ w.heap.size; omega
  · have := X.out; unfold In64 at this; exact WalkArith.wf_i64 this
  · exact WalkArith.wf_i64 (by omega)
  · exact Bl.set_ (Bl.set_ (((Bl.refl w).alloc_ _).trans_ B4.out) (Nat.le_refl _) _) (Nat.le_refl _) _

theorem pushR_wf {L : List It} {x : It} (h : WfL L) (h1 : (Lit.int .i64 x.1).wf = true) (h2 : (Lit.int .i64 x.2).wf = true) : WfL (pushR L x) := by
  cases hp : pushB L x with
  | false => rw [pushR_no hp]; intro k; simp [atI]; decide
  | true =>
    rw [pushR_yes hp]
    have hP := upI_perm L.length (L ++ [x]) (by simp)
    intro k
    rcases Nat.lt_or_ge k (upI (L ++ [x]) L.length).length with hk | hk
    · have hm : atI (upI (L ++ [x]) L.length) k ∈ L ++ [x] := hP.mem_iff.1 (by rw [atI_eq hk]; exact List.getElem_mem hk)
      rw [List.mem_append] at hm
      rcases hm with hm | hm
      · obtain ⟨j, hj, e⟩ := List.mem_iff_getElem.1 hm
        rw [← e, ← atI_eq hj]
        exact h j
      · simp at hm
        rw [hm]
        exact ⟨h1, h2⟩
    · have e : atI (upI (L ++ [x]) L.length) k = (0, 0) := by simp [atI, hk]
      rw [e]
      exact ⟨by decide, by decide⟩

end Go.Proofs.Ytnpngkppbmndiab
