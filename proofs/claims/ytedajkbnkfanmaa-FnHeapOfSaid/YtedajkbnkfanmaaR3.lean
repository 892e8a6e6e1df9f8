/-
  What is proved here: items and heaps that are drawn by a code are items of 64 bits in memory of their own. No conditions beyond those that each theorem states.
-/
import Derived.Test.YtedajkbnkfanmaaR2
import Derived.Test.YtedajkbnkfanmaaJ11
set_option linter.unusedSimpArgs false
set_option linter.unusedVariables false
namespace Go.Proofs.Ytedajkbnkfanmaa
open Go.RowKit

/-- The slice at A reads as bytes. -/
def BytesAt (w : World) (A : Option Addr) (n : Nat) : Prop := 0 < n → ∃ g off, A = some ⟨g, off, none⟩ ∧ g < w.heap.size ∧ ∀ j, j < n → ∃ b : Int, w.cell? ⟨g, off + j, none⟩ = some (.int .u8 b) ∧ 0 ≤ b ∧ b ≤ 255
theorem BytesAt.bl {w w' : World} {A : Option Addr} {n : Nat} (h : BytesAt w A n) (hb : Bl w w') : BytesAt w' A n := fun h0 => by
  obtain ⟨g, off, e, hlt, hc⟩ := h h0
  refine ⟨g, off, e, Nat.lt_of_lt_of_le hlt hb.size, fun j hj => ?_⟩
  obtain ⟨b, h1, h2⟩ := hc j hj
  exact ⟨b, ((bcell hb).1 _ _ hlt).trans h1, h2⟩
theorem RdAny.turn {w w' : World} {rd : Nat} {A : Option Addr} {n c : Nat} {S : Nat → Prop} (h : RdAny w rd A n c) (k : Turn S w w') (h1 : ¬ S rd) (h2 : 0 < n → ∀ g, blockOf A = some g → ¬ S g) : RdAny w' rd A n c := by
  obtain ⟨p, hr, hp, hc⟩ := h
  refine ⟨p, hr.of_block (k.block rd hr.lt h1), hp, fun h0 => ?_⟩
  obtain ⟨g, off, rfl, hne, hlt, hcell⟩ := hc h0
  refine ⟨g, off, rfl, hne, Nat.lt_of_lt_of_le hlt k.size, fun j hj => ?_⟩
  obtain ⟨b, e1, e2⟩ := hcell j hj
  exact ⟨b, (k.cell hlt (h2 h0 g rfl) _).trans e1, e2⟩

set_option maxHeartbeats 400000 in
theorem open_any (A : Option Addr) (n c : Nat) (w : World) (H : BytesAt w A n) :
    Calls Try.prog 62 #[.slice A n c] w fun e w' => e = .returned (.pointer (some ⟨w.heap.size, 0, none⟩)) ∧ RdAny w' w.heap.size A n c ∧ Bl w w' ∧ w.heap.size < w'.heap.size := by
  have K := Lib.hid H
  clear H
  go_enter Try.func62, Try.ntmps62
  go_wp2
  go_ret
  refine ⟨rfl, ⟨0, ?_, by omega, fun h0 => ?_⟩, (by repeat' (first | exact Bl.refl _ | with_reducible assumption | with_reducible refine Bl.drew_ ?_ | with_reducible refine Bl.drewN_ ?_ _ | with_reducible refine Bl.alloc_ ?_ _ | with_reducible refine Bl.trans_ ?_ (by assumption) | with_reducible refine Bl.trans_ ?_ (And.left (by assumption)))), by simp⟩
  · exact World.rowIs_alloc w #[.slice A n c, .int .i64 0] 111 _ (fun i hi => by
      have : i = 0 ∨ i = 1 := by simp at hi; omega
      rcases this with rfl | rfl <;> rfl)
  · obtain ⟨g, off, e, hlt, hc⟩ := K.out h0
    refine ⟨g, off, e, by omega, by simp; omega, fun j hj => ?_⟩
    obtain ⟨b, h1, h2⟩ := hc j hj
    exact ⟨b, by simp [go_sem, h1, hlt], h2⟩

/-- Items that are drawn. -/
def DrawnI (rd : Nat) (A : Option Addr) (n c : Nat) (w : World) (e : Ending) (w' : World) : Prop :=
  ∃ v L, e = .returned v ∧ OwnI w' w.heap.size v L ∧ WfL L ∧ L.length ≤ 20 ∧ RdAny w' rd A n c ∧ Turn (fun k => k = rd) w w'

theorem WfL.snoc {L : List It} {x : It} (h : WfL L) (h1 : (Lit.int .i64 x.1).wf = true) (h2 : (Lit.int .i64 x.2).wf = true) : WfL (L ++ [x]) := fun k => by
  rw [atI_append]
  split
  · exact ⟨h1, h2⟩
  · exact h k
theorem OwnI.snoc {w : World} {B : Nat} {v : Value} {F : List It} {x y : Int} (h : w.ownsRow B 30 2 v (F.length + 1) (cs2 F ++ [.int .i64 x, .int .i64 y])) : OwnI w B v (F ++ [(x, y)]) := by
  unfold OwnI
  rw [cs2_append, List.length_append]
  exact h

set_option maxRecDepth 100000 in
set_option maxHeartbeats 2000000 in
theorem items_any (rd : Nat) (A : Option Addr) (n c : Nat) (w : World) (hn : n ≤ 1099511627776) (HR : RdAny w rd A n c) (hA : 0 < n → ∀ g, blockOf A = some g → g < w.heap.size) :
    Calls Try.prog 63 #[.pointer (some ⟨rd, 0, none⟩)] w (DrawnI rd A n c w) := by
  obtain ⟨i0, hi, hz0, hz1, hz2⟩ := info_parts infoItem
  have I0 := Lib.hid hi
  have I1 := Lib.hid hz0
  have I2 := Lib.hid hz1
  have I3 := Lib.hid hz2
  have R := Lib.hid HR
  have HA := Lib.hid hA
  have hrd := HR.lt
  clear HR hi hz0 hz1 hz2 hA
  go_enter Try.func63, Try.ntmps63
  go_wp2_with fail
  refine (below_any 9 rd A n c _ hn (by omega) (R.out.bl (by repeat' (first | exact Bl.refl _ | with_reducible assumption | with_reducible refine Bl.drew_ ?_ | with_reducible refine Bl.drewN_ ?_ _ | with_reducible refine Bl.alloc_ ?_ _ | with_reducible refine Bl.trans_ ?_ (by assumption) | with_reducible refine Bl.trans_ ?_ (And.left (by assumption)))))).mono ?_
  rintro e w1 ⟨b, ⟨b0, b1⟩, rfl, hr, hg⟩
  have R1 := Lib.hid hr
  have T1 := Lib.hid (show Turn (fun k => k = rd) w w1 from (Turn.of_bl (S := fun k => k = rd) (show Bl w _ from (Bl.refl w).alloc_ (.cells #[] 30))).trans (Turn.of_grown (S := fun k => k = rd) hg (fun k h => by injection h with h; exact h.symm)) (fun i _ h => h))
  have O1 := Lib.hid (show OwnI w1 w.heap.size (.slice (some ⟨w.heap.size, 0, none⟩) 0 0) [] from Owns.grown_ (start_at w.heap.size w (Nat.le_refl _)) hg (fun g h => by simp [Value.ownBlock] at h; simp; omega))
  obtain ⟨k0, rfl⟩ := Int.eq_ofNat_of_zero_le b0
  have hk0 : k0 ≤ 8 := by omega
  clear hr hg b0 b1
  go_wp2_with fail
  go_loopw [3, 4] (fun v i wr => ∃ (k : Nat) (L : List It), i = .int .i64 (k : Int) ∧ L.length + k ≤ 8 ∧ OwnI wr w.heap.size v L ∧ WfL L ∧ RdAny wr rd A n c ∧ Turn (fun k => k = rd) w wr) (fun _ i _ => (intOf i).toNat)
  case atStart => exact ⟨k0, [], rfl, by simpa using hk0, O1.out, fun k => by simp [atI]; decide, R1.out, T1.out⟩
  case round =>
    obtain ⟨k, L, rfl, hk, hO, hwf, hr, ht⟩ := hrel
    have O := Lib.hid hO
    have WF := Lib.hid hwf
    have RR := Lib.hid hr
    have T := Lib.hid ht
    have VL := Lib.hid (Owns.lt hO)
    have hts := ht.size
    clear hO hwf hr ht
    by_cases hpos : 0 < k
    · have hp' : (0 : Int) < (k : Int) := by omega
      go_wp2_with fail
      refine (below_any 9 rd A n c _ hn (by omega) RR.out).mono ?_
      rintro e w2 ⟨d, ⟨d0, d1⟩, rfl, hr, hg⟩
      have R2 := Lib.hid hr
      have O2 := Lib.hid (show OwnI w2 w.heap.size u3 L from Owns.grown_ O.out hg (fun g h => by have := (VL.out g h).1; simp; omega))
      have T2 := Lib.hid (T.out.trans (Turn.of_grown (S := fun k => k = rd) hg (fun k h => by injection h with h; exact h.symm)) (fun i _ h => h))
      have VL2 := Lib.hid (Owns.lt O2.out)
      have s2 := hg.size
      have hrd2 := R2.out.lt
      clear hr hg
      go_wp2_with (at_builtin; refine wpList_append_any _ rfl (.tmp 12) (.tmp 17) _ rfl w.heap.size 30 i0 _ 2 16 Try.underlying24 I0.out I1.out I2.out I3.out rfl (by decide) _ L.length (cs2 L) rfl (World.ownsRow.alloc O2.out _) _ _ 1 1 [.int .i64 d, .int .i64 k] rfl (reads_two (Nat.lt_succ_self _) ?c1 ?c2) (one2 [(d, (k : Int))]) ?c3 ?c4 ?c5 ?_)
      case c1 => simp [go_sem]
      case c2 => simp [go_sem]
      case c3 => unfold maxLen; omega
      case c4 => omega
      case c5 => simp; omega
      intro v3 w3 hown3 hgr3 hbk3
      have O3 := Lib.hid (OwnI.snoc hown3)
      have T3 := Lib.hid (show Turn (fun k => k = rd) w w3 from (T2.out.bl ((Bl.refl w2).alloc_ (.cells #[.int .i64 d, .int .i64 k] 30))).trans (Turn.of_grown' (S := fun k => w.heap.size ≤ k) hgr3 (fun i _ h => (VL2.out i h).1)) (fun i hi h => by omega))
      have R3 := Lib.hid (RdAny.turn (R2.out.bl ((Bl.refl w2).alloc_ (.cells #[.int .i64 d, .int .i64 k] 30))) (Turn.of_grown' (S := fun k => w.heap.size ≤ k) hgr3 (fun i _ h => (VL2.out i h).1)) (by omega) (fun h0 g h => by have := HA.out h0 g h; omega))
      have W3 := Lib.hid (WF.out.snoc (x := (d, (k : Int))) (WalkArith.wf_i64 (by omega)) (WalkArith.wf_i64 (by omega)))
      clear hown3 hgr3 hbk3
      go_wp2
      go_roundw
      case rel => exact ⟨k - 1, L ++ [(d, (k : Int))], congrArg (Value.int .i64) (by omega), by simp; omega, O3.out, W3.out, R3.out, T3.out⟩
      case measure => simp [intOf]; omega
    · obtain rfl : k = 0 := by omega
      obtain ⟨A1, c1, rfl, -, hat, -, hs⟩ := Owns.shape O.out
      have HS := Lib.hid hs
      clear hs hpos
      go_wp2_with fail
      refine (once_any 12 rd A n c _ hn (by omega) (by omega) RR.out).mono ?_
      rintro e w2 ⟨t, rfl, hr, hg⟩
      have R2 := Lib.hid hr
      have O2 := Lib.hid (show OwnI w2 w.heap.size (.slice A1 L.length c1) L from Owns.grown_ O.out hg (fun g h => by have := (VL.out g h).1; simp; omega))
      have T2 := Lib.hid (T.out.trans (Turn.of_grown (S := fun k => k = rd) hg (fun k h => by injection h with h; exact h.symm)) (fun i _ h => h))
      clear hr hg
      cases t with
      | false =>
        go_wp2
        go_ret
        exact ⟨_, L, rfl, O2.out, WF.out, by omega, R2.out, T2.out⟩
      | true =>
        rcases L with _ | ⟨⟨x, y⟩, L⟩
        · go_wp2
          go_ret
          exact ⟨_, [], rfl, O2.out, WF.out, by simp, R2.out, T2.out⟩
        · obtain ⟨g, rfl, hBg, hgl, -⟩ := HS.out (by simp)
          obtain ⟨m, hm⟩ : ∃ m, m = ((x, y) :: L).length := ⟨_, rfl⟩
          have hm0 : (0 : Int) < (m : Int) := by rw [hm]; simp
          have hml : m ≤ 8 := by omega
          have HM := Lib.hid hm
          have O3 := Lib.hid (show Owns 30 2 w2 w.heap.size (.slice (some ⟨g, 0, none⟩) m c1) m (cs2 ((x, y) :: L)) from by have h := O2.out; unfold OwnI at h; rw [← HM.out] at h; exact h)
          have VL2 := Lib.hid (Owns.lt O3.out)
          obtain ⟨A9, c9, e9, -, -, -, hs3⟩ := Owns.shape O3.out
          injection e9 with e91 e92 e93
          obtain ⟨g', e', -, -, -, hc3⟩ := hs3 (by omega)
          rw [← e91] at e'
          injection e' with e'
          injection e' with e'
          subst e'
          clear e91 e93
          have a1 := hc3 0 (by simp [cs2])
          have a2 := hc3 1 (by simp [cs2])
          simp only [cs2, List.getElem_cons_zero, List.getElem_cons_succ] at a1 a2
          have s2 := R2.out.lt
          rw [← HM.out]
          clear hs3 hc3 hm hk
          go_wp2_with (at_builtin; refine wpList_append_any _ rfl (.tmp 26) (.tmp 30) _ rfl w.heap.size 30 i0 _ 2 16 Try.underlying24 I0.out I1.out I2.out I3.out rfl (by decide) _ m (cs2 ((x, y) :: L)) rfl (World.ownsRow.alloc O3.out _) _ _ 1 1 [.int .i64 x, .int .i64 y] rfl (reads_two (Nat.lt_succ_self _) ?c1 ?c2) (one2 [(x, y)]) ?c3 ?c4 ?c5 ?_)
          case c1 => simp [go_sem]
          case c2 => simp [go_sem]
          case c3 => unfold maxLen; omega
          case c4 => omega
          case c5 => simp; have := T2.out.size; omega
          intro v3 w3 hown3 hgr3 hbk3
          have O4 := Lib.hid (OwnI.snoc (F := (x, y) :: L) (x := x) (y := y) (by rw [← HM.out]; exact hown3))
          have T3 := Lib.hid (show Turn (fun k => k = rd) w w3 from (T2.out.bl ((Bl.refl w2).alloc_ (.cells #[.int .i64 x, .int .i64 y] 30))).trans (Turn.of_grown' (S := fun k => w.heap.size ≤ k) hgr3 (fun i _ h => (VL2.out i h).1)) (fun i hi h => by omega))
          have R3 := Lib.hid (RdAny.turn (R2.out.bl ((Bl.refl w2).alloc_ (.cells #[.int .i64 x, .int .i64 y] 30))) (Turn.of_grown' (S := fun k => w.heap.size ≤ k) hgr3 (fun i _ h => (VL2.out i h).1)) (by omega) (fun h0 g h => by have := HA.out h0 g h; omega))
          have W3 := Lib.hid (WF.out.snoc (x := (x, y)) (by have := (WF.out 0).1; simpa [atI] using this) (by have := (WF.out 0).2; simpa [atI] using this))
          clear hown3 hgr3 hbk3
          go_wp2
          go_ret
          exact ⟨_, (x, y) :: L ++ [(x, y)], rfl, O4.out, W3.out, by rw [List.length_append, ← HM.out]; simp; omega, R3.out, T3.out⟩

theorem heapOfL_wf {L : List It} (h : WfL L) : WfL (heapOfL L) := by
  unfold heapOfL
  split
  · exact arrI_all (P := fun x => (Lit.int .i64 x.1).wf = true ∧ (Lit.int .i64 x.2).wf = true) _ h
  · intro k; simp [atI]; decide
theorem heapOfL_le (L : List It) : (heapOfL L).length ≤ L.length := by
  unfold heapOfL
  split
  · rw [arrI_len]; exact Nat.le_refl _
  · simp

-- (heap_any left out)

/-- Items that are drawn by a code. -/
def DrawnC (w : World) (e : Ending) (w' : World) : Prop := ∃ v L, e = .returned v ∧ OwnI w' w.heap.size v L ∧ WfL L ∧ L.length ≤ 20 ∧ Bl w w'
theorem BytesAt.lt {w : World} {A : Option Addr} {n : Nat} (h : BytesAt w A n) (hz : 0 < n) : ∀ g, blockOf A = some g → g < w.heap.size := fun g hg => by
  obtain ⟨g', off, rfl, hlt, _⟩ := h hz
  simp [blockOf] at hg
  omega

-- (drawHeapOk_any left out)

end Go.Proofs.Ytedajkbnkfanmaa
