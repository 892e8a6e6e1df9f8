/-
  What is proved here: HeapPop and HeapLess, on both sides. No conditions beyond those that each theorem states.
-/
import Derived.Test.YtedajkbnkfanmaaJ6
set_option linter.unusedSimpArgs false
set_option linter.unusedVariables false
namespace Go.Proofs.Ytedajkbnkfanmaa
open Go.RowKit

/-- Is there a first one to take? -/
def popB (L : List It) : Bool := heapI L && decide (0 < L.length)
def popRest (L : List It) : List It := if popB L = true then popL L else []
def popFirst (L : List It) : It := if popB L = true then atI L 0 else (0, 0)
theorem popB_no1 {L : List It} (h : heapI L = false) : popB L = false := by simp [popB, h]
theorem popB_no2 : popB [] = false := by simp [popB]
theorem popB_yes {L : List It} (h : heapI L = true) (h0 : 0 < L.length) : popB L = true := by simp [popB, h, h0]
/-- A list of its own, an item and a word are left. -/
def PopOk (L : List It) (x : It) (ok : Bool) (w : World) (e : Ending) (w' : World) : Prop :=
  ∃ v, e = .returned (.tuple #[v, .agg #[.int .i64 x.1, .int .i64 x.2], .bool ok]) ∧ OwnI w' w.heap.size v L ∧ Bl w w'
theorem PopOk.no {L : List It} {w : World} {e : Ending} {w' : World} (h : popB L = false) (he : e = .returned (.tuple #[.slice none 0 0, .agg #[.int .i64 0, .int .i64 0], .bool false])) (hb : Bl w w') : PopOk (popRest L) (popFirst L) (popB L) w e w' :=
  ⟨_, by rw [he, show popFirst L = (0, 0) from if_neg (by rw [h]; simp), h], by rw [show popRest L = [] from if_neg (by rw [h]; simp)]; exact Owns.nil_ _ _ _ _, hb⟩

set_option maxRecDepth 100000 in
set_option maxHeartbeats 1000000 in
theorem implHeapPop_any (A : Option Addr) (n c : Nat) (L : List It) (hn : n = L.length) (w : World) (hm : n ≤ 1048576) (hwf : WfI L) (H1 : ItemsAt w w.heap.size A L) :
    Calls Try.prog 20 #[.slice A n c] w (PopOk (popRest L) (popFirst L) (popB L) w) := by
  have K1 := Lib.hid H1
  have HN := Lib.hid hn
  have HW := Lib.hid hwf
  clear H1 hn hwf
  cases hhb : heapI L with
  | false =>
    have HB := Lib.hid hhb
    clear hhb
    go_enter Try.func20, Try.ntmps20
    go_wp2_with fail
    refine (implHeapOk_any A n c L HN.out _ hm HW.out (ItemsAt.bl K1.out (by repeat' (first | exact Bl.refl _ | with_reducible assumption | with_reducible refine Bl.drew_ ?_ | with_reducible refine Bl.drewN_ ?_ _ | with_reducible refine Bl.alloc_ ?_ _ | with_reducible refine Bl.trans_ ?_ (by assumption) | with_reducible refine Bl.trans_ ?_ (And.left (by assumption)))))).mono ?_
    rintro e w1 ⟨rfl, hb1⟩
    have q0 := (box2 hb1).1
    have q1 := (box2 hb1).2
    have f0 := ((bcell hb1).2 w.heap.size 0 (by simp)).trans (show _ = false from by simp [go_sem])
    have f1 := ((bcell hb1).2 w.heap.size 1 (by simp)).trans (show _ = false from by simp [go_sem])
    rw [HB.out]
    go_wp2
    refine bodyPost_ret (v := .tuple #[.slice none 0 0, .agg #[.int .i64 0, .int .i64 0], .bool false]) (by simp [results, Try.results20, go_sem, q0, q1]) rfl (PopOk.no (popB_no1 HB.out) rfl (Bl.set_ (Bl.set_ (by repeat' (first | exact Bl.refl _ | with_reducible assumption | with_reducible refine Bl.drew_ ?_ | with_reducible refine Bl.drewN_ ?_ _ | with_reducible refine Bl.alloc_ ?_ _ | with_reducible refine Bl.trans_ ?_ (by assumption) | with_reducible refine Bl.trans_ ?_ (And.left (by assumption)))) (Nat.le_refl _) _) (Nat.le_refl _) _))
  | true =>
    have HB := Lib.hid hhb
    clear hhb
    rcases n with _ | m
    · have hL0 : L = [] := List.eq_nil_of_length_eq_zero HN.out.symm
      subst hL0
      go_enter Try.func20, Try.ntmps20
      go_wp2_with fail
      refine (implHeapOk_any A 0 c [] HN.out _ hm HW.out (ItemsAt.bl K1.out (by repeat' (first | exact Bl.refl _ | with_reducible assumption | with_reducible refine Bl.drew_ ?_ | with_reducible refine Bl.drewN_ ?_ _ | with_reducible refine Bl.alloc_ ?_ _ | with_reducible refine Bl.trans_ ?_ (by assumption) | with_reducible refine Bl.trans_ ?_ (And.left (by assumption)))))).mono ?_
      rintro e w1 ⟨rfl, hb1⟩
      have q0 := (box2 hb1).1
      have q1 := (box2 hb1).2
      have f0 := ((bcell hb1).2 w.heap.size 0 (by simp)).trans (show _ = false from by simp [go_sem])
      have f1 := ((bcell hb1).2 w.heap.size 1 (by simp)).trans (show _ = false from by simp [go_sem])
      rw [HB.out]
      go_wp2
      refine bodyPost_ret (v := .tuple #[.slice none 0 0, .agg #[.int .i64 0, .int .i64 0], .bool false]) (by simp [results, Try.results20, go_sem, q0, q1]) rfl (PopOk.no popB_no2 rfl (Bl.set_ (Bl.set_ (by repeat' (first | exact Bl.refl _ | with_reducible assumption | with_reducible refine Bl.drew_ ?_ | with_reducible refine Bl.drewN_ ?_ _ | with_reducible refine Bl.alloc_ ?_ _ | with_reducible refine Bl.trans_ ?_ (by assumption) | with_reducible refine Bl.trans_ ?_ (And.left (by assumption)))) (Nat.le_refl _) _) (Nat.le_refl _) _))
    · have hm0 : ((m + 1 : Nat) : Int) == 0 → False := fun h => by simp at h; omega
      have PB := Lib.hid (popB_yes HB.out (by have := HN.out; omega))
      go_enter Try.func20, Try.ntmps20
      go_wp2_with fail
      refine (implHeapOk_any A (m + 1) c L HN.out _ hm HW.out (ItemsAt.bl K1.out (by repeat' (first | exact Bl.refl _ | with_reducible assumption | with_reducible refine Bl.drew_ ?_ | with_reducible refine Bl.drewN_ ?_ _ | with_reducible refine Bl.alloc_ ?_ _ | with_reducible refine Bl.trans_ ?_ (by assumption) | with_reducible refine Bl.trans_ ?_ (And.left (by assumption)))))).mono ?_
      rintro e w1 ⟨rfl, hb1⟩
      have HB1 := Lib.hid hb1
      have hbw1 := Lib.hid (show Bl w w1 from (by repeat' (first | exact Bl.refl _ | with_reducible assumption | with_reducible refine Bl.drew_ ?_ | with_reducible refine Bl.drewN_ ?_ _ | with_reducible refine Bl.alloc_ ?_ _ | with_reducible refine Bl.trans_ ?_ (by assumption) | with_reducible refine Bl.trans_ ?_ (And.left (by assumption)))))
      have s1 := hb1.size
      simp at s1
      clear hb1
      rw [HB.out]
      go_wp2_with fail
      refine (copied_any A (m + 1) c L HN.out _ hm (ItemsAt.bl K1.out hbw1.out)).mono ?_
      rintro e w2 ⟨hb, v, rfl, hin, hb2⟩
      obtain ⟨A1, c1, rfl, -⟩ := Owns.shape hin.2.1
      rw [← HN.out] at hin
      obtain ⟨g, rfl, hBg, hR, hne⟩ := HeapIn.row (g := 0) hin HN.out (by omega)
      have H2 := Lib.hid hin.1
      have R2 := Lib.hid hR
      have hBb := hin.2.2.1
      have s2 := hb2.size
      have hgl := hR.cells.2.1
      have hbl := hin.1.lt
      have HB2 := Lib.hid hb2
      clear hin hR hb2
      go_wp2_with fail
      refine (pop_any hb g m c1 L _ (by omega) R2.out H2.out hne).mono ?_
      rintro e w3 ⟨rfl, hR3, hH3, hT3⟩
      have R3 := Lib.hid hR3
      have H3 := Lib.hid hH3
      have T3 := Lib.hid hT3
      have s3 := hT3.size
      clear hR3 hH3 hT3
      have B3 := Lib.hid (Turn.to_bl (HB1.out.trans_ HB2.out) T3.out (fun i h => by rcases h with h | h <;> (simp; omega)))
      obtain ⟨q0, q1⟩ := box2 B3.out
      have f0 := ((bcell B3.out).2 w.heap.size 0 (by simp)).trans (show _ = false from by simp [go_sem])
      have f1 := ((bcell B3.out).2 w.heap.size 1 (by simp)).trans (show _ = false from by simp [go_sem])
      obtain ⟨h0, h1, h2⟩ := H3.out
      have hbl3 : hb < w3.heap.size := H3.out.lt
      have hwl3 : w.heap.size < w3.heap.size := by omega
      clear hm0
      generalize hx : (atI L 0).1 = x
      generalize hy : (atI L 0).2 = y
      have X := Lib.hid (show atI L 0 = (x, y) from by rw [← hx, ← hy])
      clear hx hy
      go_wp2_with fail
      go_region
      all_goals
        go_wp2
        refine bodyPost_ret (v := .tuple #[.slice (some ⟨g, 0, none⟩) m c1, .agg #[.int .i64 x, .int .i64 y], .bool true]) (by simp [results, Try.results20, go_sem, q0, q1, hwl3]) rfl ⟨_, by rw [show popFirst L = atI L 0 from if_pos PB.out, X.out, PB.out], ?_, ?_⟩
        · rw [show popRest L = popL L from if_pos PB.out]
          have h5 := R3.out.1
          have hl := R3.out.2
          unfold OwnI at h5 ⊢
          rw [← hl] at h5 ⊢
          refine Owns.bl (w := (w3.setCell ⟨w.heap.size, 0, none⟩ (.int .i64 x)).setCell ⟨w.heap.size, 1, none⟩ (.int .i64 y)) (Owns.setOther (Owns.setOther (Owns.at_base h5 (by omega)) ?_ _) ?_ _) ?_
          · intro g' e; have e' : g = g' := by simpa [Value.ownBlock] using e
            show g' ≠ w.heap.size; omega
          · intro g' e; have e' : g = g' := by simpa [Value.ownBlock] using e
            show g' ≠ w.heap.size; omega
          · exact (by repeat' (first | exact Bl.refl _ | with_reducible assumption | with_reducible refine Bl.drew_ ?_ | with_reducible refine Bl.drewN_ ?_ _ | with_reducible refine Bl.alloc_ ?_ _ | with_reducible refine Bl.trans_ ?_ (by assumption) | with_reducible refine Bl.trans_ ?_ (And.left (by assumption))))
        · exact (Bl.set_ (Bl.set_ ((Bl.alloc_ (Bl.refl w) _).trans_ B3.out) (Nat.le_refl _) _) (Nat.le_refl _) _).trans_ (by repeat' (first | exact Bl.refl _ | with_reducible assumption | with_reducible refine Bl.drew_ ?_ | with_reducible refine Bl.drewN_ ?_ _ | with_reducible refine Bl.alloc_ ?_ _ | with_reducible refine Bl.trans_ ?_ (by assumption) | with_reducible refine Bl.trans_ ?_ (And.left (by assumption))))

end Go.Proofs.Ytedajkbnkfanmaa
