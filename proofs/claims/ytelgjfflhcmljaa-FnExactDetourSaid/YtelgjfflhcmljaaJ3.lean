/-
  What is proved here: push, pop and arrange on a heap of the code's own. No conditions beyond those that each theorem states.
-/
import Derived.Test.YtelgjfflhcmljaaJ2
import Derived.Test.YtelgjfflhcmljaaI6
set_option linter.unusedSimpArgs false
set_option linter.unusedVariables false
namespace Go.Proofs.Ytelgjfflhcmljaa
open Go.RowKit

theorem Owns.self_ {t : TypeId} {s : Nat} {w : World} {B g n c : Nat} {vs : List Value} (h : Owns t s w B (.slice (some ⟨g, 0, none⟩) n c) n vs) : Owns t s w g (.slice (some ⟨g, 0, none⟩) n c) n vs := by
  refine ⟨h.1, ?_⟩
  rcases h.2 with ⟨e, h0⟩ | ⟨g', cap, cur, e, hB, r⟩
  · simp at e
  · injection e with e1 e2 e3
    injection e1 with e1
    injection e1 with e1
    exact .inr ⟨g', cap, cur, by rw [e1, e3], by omega, r⟩
theorem Owns.at_base {t : TypeId} {s : Nat} {w : World} {B B' g n c : Nat} {vs : List Value} (h : Owns t s w B (.slice (some ⟨g, 0, none⟩) n c) n vs) (hB : B' ≤ g) : Owns t s w B' (.slice (some ⟨g, 0, none⟩) n c) n vs :=
  Owns.low (Owns.self_ h) hB

/-- What a push leaves. -/
def PushPost (B hb : Nat) (v0 : Value) (L : List It) (w : World) (e : Ending) (w' : World) : Prop :=
  e = .returned (.tuple #[]) ∧ ∃ g c, HeapIn w' B hb (.slice (some ⟨g, 0, none⟩) L.length c) L ∧ Turn (fun k => k = hb ∨ some k = v0.ownBlock) w w' ∧ (v0.ownBlock = some g ∨ w.heap.size ≤ g)

set_option maxRecDepth 100000 in
set_option maxHeartbeats 2000000 in
theorem push_any (B hb : Nat) (v : Value) (L : List It) (a b : Int) (w : World) (hm : L.length + 1 ≤ 1048576) (hH : HeapIn w B hb v L) (hB : B ≤ w.heap.size) :
    Calls Try.prog 171 #[.pointer (some ⟨hb, 0, none⟩), .agg #[.int .i64 a, .int .i64 b]] w (PushPost B hb v (upI (L ++ [(a, b)]) L.length) w) := by
  obtain ⟨i0, hi, hz0, hz1, hz2⟩ := info_parts infoItem
  have I0 := Lib.hid hi
  have I1 := Lib.hid hz0
  have I2 := Lib.hid hz1
  have I3 := Lib.hid hz2
  obtain ⟨hbx, hown, hBb, hnb⟩ := hH
  obtain ⟨A, c, rfl, hcm, -, -, -⟩ := Owns.shape hown
  have O := Lib.hid hown
  have NB := Lib.hid hnb
  have hlt := hbx.lt
  have HX := Lib.hid hbx
  obtain ⟨n, hn⟩ : ∃ n, n = L.length := ⟨_, rfl⟩
  rw [← hn] at hm
  obtain ⟨h0, h1, h2⟩ := hbx
  rw [← hn] at h0
  have HN := Lib.hid hn
  have O1 := Lib.hid (show (((w.alloc (.cells #[.int .i64 a, .int .i64 b] 116)).drew).alloc (.cells #[.int .i64 a, .int .i64 b] 116)).ownsRow B 116 2 (.slice A n c) n (cs2 L) from by rw [HN.out]; exact World.ownsRow.alloc (World.ownsRow.drew (World.ownsRow.alloc O.out _)) _)
  have NW := Lib.hid (show ∀ j u, ([.int .i64 a, .int .i64 b] : List Value)[j]? = some u → (((w.alloc (.cells #[.int .i64 a, .int .i64 b] 116)).drew).alloc (.cells #[.int .i64 a, .int .i64 b] 116)).cell? ((⟨w.heap.size + 1, 0, none⟩ : Addr).add j) = some u from by
    simpa using new2 ((w.alloc (.cells #[.int .i64 a, .int .i64 b] 116)).drew) (.int .i64 a) (.int .i64 b) 116)
  have NB2 := Lib.hid (show (Value.slice A n c).ownBlock ≠ some hb from by rw [ownBlock_slice]; rw [ownBlock_slice] at hnb; exact hnb)
  clear hi hz0 hz1 hz2 hnb hown hn
  go_enter Try.func171, Try.ntmps171
  go_wp2_with fail
  go_region_law (refine step_append_lies _ rfl (.tmp 8) (.tmp 10) 62 rfl B 116 i0 _ 2 16 Try.underlying62 I0.out I1.out I2.out I3.out rfl (by decide) (.slice A n c) n (cs2 L) rfl O1.out ⟨w.heap.size + 1, 0, none⟩ 1 1 [.int .i64 a, .int .i64 b] rfl rfl NW.out (one2 [(a, b)]) (by decide) (by unfold maxLen; omega) (by omega) (by simp; omega) _ rfl ?_; intro g cap w2 hown2 hgr2 hgv hlt2; have q0 := hgr2.cell (a := ⟨hb, 0, none⟩) (v := .slice A n c) (by simp [go_sem, h0, hlt]) (fun h => NB2.out h.symm); have q2 := (World.frozen?_of_block (a := ⟨hb, 0, none⟩) (hgr2.block hb (by simp; omega) (fun h => NB2.out h.symm))).trans (show _ = false from by simp [go_sem, h2, hlt]))
  all_goals
    have hgv' : (Value.slice A n c).ownBlock = some g ∨ g = w.heap.size + 2 := by
      rcases hgv with h | h
      · exact .inl h
      · right; simpa using h
    have hgb : hb ≠ g := by
      rintro rfl
      rcases hgv' with h | h
      · exact NB2.out h
      · omega
    have hBg : B ≤ g := by
      rcases hgv' with h | h
      · exact (Owns.lt_ O.out g (by rw [← ownBlock_slice A n c]; exact h)).1
      · omega
    have s2 := hgr2.size
    simp at s2
    have R3 := Lib.hid (show RowI (w2.setCell ⟨hb, 0, none⟩ (.slice (some ⟨g, 0, none⟩) (n + 1) cap)) g (n + 1) cap (L ++ [(a, b)]) from by
      have hl : n + 1 = (L ++ [(a, b)]).length := by simp; exact HN.out
      have hO : Owns 116 2 w2 B (.slice (some ⟨g, 0, none⟩) (n + 1) cap) (n + 1) (cs2 (L ++ [(a, b)])) := by
        unfold Owns
        rw [cs2_append]
        exact hown2
      refine ⟨?_, hl⟩
      unfold OwnI
      rw [← hl]
      exact Owns.setOther (Owns.self_ hO) (fun g' e => by injection e with e; subst e; exact fun h => hgb h.symm) _)
    have q1 := hgr2.cell (a := ⟨hb, 1, none⟩) (v := .func (.func 170) #[] #[]) (by simp [go_sem, h1, hlt]) (fun h => NB2.out h.symm)
    have H3 := Lib.hid (show HBox (w2.setCell ⟨hb, 0, none⟩ (.slice (some ⟨g, 0, none⟩) (n + 1) cap)) hb (.slice (some ⟨g, 0, none⟩) (n + 1) cap) from ⟨by simp [go_sem, q0], by simp [go_sem, q1], by simp [go_sem, q2]⟩)
    have T2 := Lib.hid (show Turn (fun k => k = hb ∨ some k = (Value.slice A L.length c).ownBlock) w (w2.setCell ⟨hb, 0, none⟩ (.slice (some ⟨g, 0, none⟩) (n + 1) cap)) from
      ((Turn.of_bl (S := fun k => k = hb ∨ some k = (Value.slice A L.length c).ownBlock) (show Bl w _ from (by repeat' (first | exact Bl.refl _ | with_reducible assumption | with_reducible refine Bl.drew_ ?_ | with_reducible refine Bl.drewN_ ?_ _ | with_reducible refine Bl.alloc_ ?_ _ | with_reducible refine Bl.trans_ ?_ (by assumption) | with_reducible refine Bl.trans_ ?_ (And.left (by assumption)))))).trans (Turn.of_grown (S := fun k => some k = (Value.slice A n c).ownBlock) hgr2 (fun k h => h.symm)) (fun i _ h => .inr (by rw [ownBlock_slice] at h ⊢; exact h))).set (.inl (.inl rfl)) _)
    have GV := Lib.hid hgv'
    clear hown2 hgr2 hgv hgv' q0 q1 q2
    generalize w2.setCell ⟨hb, 0, none⟩ (.slice (some ⟨g, 0, none⟩) (n + 1) cap) = w3 at *
    obtain ⟨h0, h1, h2⟩ := H3.out
    go_wp2_with fail
    refine (rise_any hb g (n + 1) cap n _ _ (by omega) R3.out H3.out hgb (by omega)).mono ?_
    rintro e w4 ⟨rfl, hR4, hG4⟩
    have R4 := Lib.hid hR4
    have G4 := Lib.hid hG4
    clear hR4 hG4
    go_wp2
    go_end0
    have HB4 := H3.out.grown_ G4.out (by simp; exact hgb)
    have hl4 := R4.out.2
    refine ⟨rfl, g, cap, ⟨?_, ?_, hBb, by simp [Value.ownBlock]; exact fun h => hgb h.symm⟩, ?_, ?_⟩
    · rw [← HN.out, ← hl4]; exact HB4
    · have h5 := R4.out.1
      rw [← HN.out, ← hl4]
      unfold OwnI at h5 ⊢
      rw [← hl4] at h5 ⊢
      exact Owns.at_base h5 hBg
    · refine T2.out.trans (Turn.of_grown (S := fun k => k = g) G4.out (fun k h => by injection h with h; exact h.symm)) (fun i hi h => ?_)
      rcases GV.out with h' | h'
      · right; rw [h]; rw [ownBlock_slice] at h' ⊢; exact h'.symm
      · omega
    · rcases GV.out with h' | h'
      · left; rw [ownBlock_slice] at h' ⊢; exact h'
      · right; omega

end Go.Proofs.Ytelgjfflhcmljaa
