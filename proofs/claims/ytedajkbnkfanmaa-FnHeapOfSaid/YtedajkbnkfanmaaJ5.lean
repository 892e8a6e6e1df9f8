/-
  What is proved here: arrange on a heap of the code's own; and HeapOf on both sides. No conditions beyond those that each theorem states.
-/
import Derived.Test.YtedajkbnkfanmaaJ4
import Derived.Test.YtedajkbnkfanmaaJ3
import Derived.Test.YtedajkbnkfanmaaL1
import Derived.Test.YtedajkbnkfanmaaI7
set_option linter.unusedSimpArgs false
set_option linter.unusedVariables false
namespace Go.Proofs.Ytedajkbnkfanmaa
open Go.RowKit

theorem set_all {P : It → Prop} {L : List It} (h : ∀ k, P (atI L k)) {x : It} (hx : P x) (i : Nat) : ∀ k, P (atI (L.set i x) k) := fun k => by
  rcases Nat.lt_or_ge i L.length with hi | hi
  · rw [atI_set hi]
    split
    · exact hx
    · exact h k
  · rw [List.set_eq_of_length_le hi]
    exact h k
theorem swapI_all {P : It → Prop} {L : List It} (h : ∀ k, P (atI L k)) (i j : Nat) : ∀ k, P (atI (swapI L i j) k) := set_all (set_all h (h j) i) (h i) j
theorem downI_all_aux {P : It → Prop} (n : Nat) : ∀ (L : List It) (p : Nat), L.length - p = n → (∀ k, P (atI L k)) → ∀ k, P (atI (downI L p) k) := by
  induction n using Nat.strongRecOn with
  | ind n ih =>
    intro L p hn h
    by_cases hp : pickI L p = p
    · rw [downI_stop hp]; exact h
    · rw [downI_step hp]
      have h1 := pickI_ge L p
      have h2 := pickI_lt' hp
      exact ih (L.length - pickI L p) (by omega) _ _ (by rw [swapI_len]) (swapI_all h _ _)
theorem downI_all {P : It → Prop} {L : List It} (h : ∀ k, P (atI L k)) (p : Nat) : ∀ k, P (atI (downI L p) k) := downI_all_aux _ L p rfl h
theorem arrI_all {P : It → Prop} : ∀ (n : Nat) {L : List It}, (∀ k, P (atI L k)) → ∀ k, P (atI (arrI n L) k)
  | 0, _, h => h
  | n + 1, _, h => by rw [arrI]; exact arrI_all n (downI_all h n)
theorem arrI_wf {L : List It} (h : WfI L) (n : Nat) : WfI (arrI n L) := arrI_all (P := fun x => (Lit.int .i64 x.2).wf = true) n h

set_option maxHeartbeats 1000000 in
theorem arrange_nil (hb c : Nat) (A : Option Addr) (w : World) (hH : HBox w hb (.slice A 0 c)) :
    Calls Try.prog 65 #[.pointer (some ⟨hb, 0, none⟩)] w fun e w' => e = .returned (.tuple #[]) ∧ w = w' := by
  obtain ⟨h0, h1, h2⟩ := hH
  go_enter Try.func65, Try.ntmps65
  go_wp2
  refine wp_loop_rounds 1 ?_
  rw [rounds_succ]
  go_wp2
  go_end0
  exact ⟨rfl, rfl⟩

set_option maxHeartbeats 1000000 in
theorem arrange_any (hb g n c : Nat) (L : List It) (w : World) (hm : n ≤ 1048576) (hR : RowI w g n c L) (hH : HBox w hb (.slice (some ⟨g, 0, none⟩) n c)) (hne : hb ≠ g) :
    Calls Try.prog 65 #[.pointer (some ⟨hb, 0, none⟩)] w (RowTo g n c (arrI (n / 2) L) w) := by
  have R := Lib.hid hR
  have H := Lib.hid hH
  obtain ⟨h0, h1, h2⟩ := hH
  have hbl := H.out.lt
  clear hR
  obtain ⟨q, hqd⟩ : ∃ q, q = n / 2 := ⟨_, rfl⟩
  have hqn : q ≤ n := by omega
  have hqe : (n : Int) / 2 = (q : Int) := by omega
  rw [← hqd]
  clear hqd
  go_enter Try.func65, Try.ntmps65
  go_wp2
  clear hqe
  go_loopw [2] (fun p wr => ∃ (k : Nat) (L' : List It), p = .int .i64 ((k : Int) - 1) ∧ k ≤ n ∧ RowI wr g n c L' ∧ w.grownBy wr (some g) ∧ arrI k L' = arrI q L) (fun p _ => (intOf p + 1).toNat)
  case atStart => exact ⟨q, L, rfl, hqn, R.out, World.grownBy.refl w _, rfl⟩
  case round =>
    obtain ⟨k, L', rfl, hk, hR', hG, hE⟩ := hrel
    have R' := Lib.hid hR'
    have G := Lib.hid hG
    have E := Lib.hid hE
    clear hR' hG hE
    rcases k with _ | k
    · go_wp2
      go_end0
      exact ⟨rfl, by rw [← E.out]; exact R'.out, G.out⟩
    · have ek : ((k + 1 : Nat) : Int) - 1 = (k : Int) := by omega
      rw [ek]
      go_wp2_with fail
      refine (sink_any hb g n c k L' _ hm R'.out (H.out.grown_ G.out (by simp; exact hne)) hne (by omega)).mono ?_
      rintro e w2 ⟨rfl, hR2, hG2⟩
      have R2 := Lib.hid hR2
      have G2 := Lib.hid hG2
      clear hR2 hG2 ek
      go_wp2
      go_roundw
      case rel => exact ⟨k, downI L' k, rfl, by omega, R2.out, grown_trans G.out G2.out, E.out⟩
      case measure => simp [intOf] <;> omega

/-- A list of its own is left, and a word. -/
def ItemsOk (L : List It) (ok : Bool) (w : World) (e : Ending) (w' : World) : Prop := ∃ v, e = .returned (.tuple #[v, .bool ok]) ∧ OwnI w' w.heap.size v L ∧ Bl w w'
def heapOfL (L : List It) : List It := if heapI (arrI (L.length / 2) L) = true then arrI (L.length / 2) L else []
theorem HeapIn.row {w : World} {B hb g n c : Nat} {A : Option Addr} {L : List It} (h : HeapIn w B hb (.slice A n c) L) (hn : n = L.length) (h0 : 0 < n) : ∃ g, A = some ⟨g, 0, none⟩ ∧ B ≤ g ∧ RowI w g n c L ∧ hb ≠ g := by
  obtain ⟨hbx, hown, hBb, hnb⟩ := h
  subst hn
  obtain ⟨A', c', e, _, _, _, hs⟩ := Owns.shape hown
  injection e with e1 e2 e3
  subst e1
  obtain ⟨g, rfl, hBg, hlt, _⟩ := hs h0
  refine ⟨g, rfl, hBg, ⟨Owns.self_ hown, rfl⟩, ?_⟩
  rintro rfl
  exact hnb rfl

set_option maxRecDepth 100000 in
set_option maxHeartbeats 1000000 in
theorem implHeapOf_any (A : Option Addr) (n c : Nat) (L : List It) (hn : n = L.length) (w : World) (hm : n ≤ 1048576) (hwf : WfI L) (H1 : ItemsAt w w.heap.size A L) :
    Calls Try.prog 17 #[.slice A n c] w (ItemsOk (heapOfL L) (heapI (arrI (L.length / 2) L)) w) := by
  have K1 := Lib.hid H1
  have HN := Lib.hid hn
  have HW := Lib.hid hwf
  clear H1 hn hwf
  have key : ∀ (hb' : Bool), heapI (arrI (L.length / 2) L) = hb' → Calls Try.prog 17 #[.slice A n c] w (ItemsOk (heapOfL L) hb' w) := by
    intro r hr
    have HR := Lib.hid hr
    have HLT := Lib.hid (show r = true → heapOfL L = arrI (L.length / 2) L from fun h => by unfold heapOfL; rw [hr, h]; rfl)
    have HLF := Lib.hid (show r = false → heapOfL L = [] from fun h => by unfold heapOfL; rw [hr, h]; rfl)
    clear hr
    go_enter Try.func17, Try.ntmps17
    go_wp2_with fail
    refine (copied_any A n c L HN.out _ hm K1.out).mono ?_
    rintro e w1 ⟨hb, v, rfl, hin, hb1⟩
    have IN := Lib.hid hin
    obtain ⟨A1, c1, rfl, -⟩ := Owns.shape hin.2.1
    rw [← HN.out] at hin
    have hs1 := hb1.size
    rcases Nat.eq_zero_or_pos n with h0 | h0
    · subst h0
      have hL0 : L = [] := List.eq_nil_of_length_eq_zero HN.out.symm
      subst hL0
      go_wp2_with fail
      refine (arrange_nil hb c1 A1 _ hin.1).mono ?_
      rintro e w2 ⟨rfl, rfl⟩
      obtain ⟨q0, q1, q2⟩ := hin.1
      have e0 : heapI ([] : List It) = true := by decide
      have er : r = true := by rw [← HR.out]; decide
      subst er
      go_wp2_with fail
      refine (implHeapOk_any A1 0 c1 [] rfl _ (by omega) HW.out (CellsAt.nil_ _ _ _)).mono ?_
      rintro e w2 ⟨rfl, hb2⟩
      have q0' := (bcell hb2).1 hb 0 hin.1.lt
      rw [q0] at q0'
      rw [e0]
      go_wp2
      go_ret2
      exact ⟨_, rfl, by rw [HLT.out (by simp)]; exact Owns.bl IN.out.2.1 hb2, hb1.trans_ hb2⟩
    · obtain ⟨g, rfl, hBg, hR, hne⟩ := HeapIn.row (g := 0) hin HN.out h0
      go_wp2_with fail
      refine (arrange_any hb g n c1 L _ hm hR hin.1 hne).mono ?_
      rintro e w2 ⟨rfl, hR2, hG2⟩
      have R2 := Lib.hid hR2
      have G2 := Lib.hid hG2
      have B2 := Lib.hid (hb1.grown_ hG2 (fun k h => by injection h with h; omega))
      have HB2 := Lib.hid (hin.1.grown_ hG2 (by simp; exact hne))
      clear hR2 hG2
      obtain ⟨q0, q1, q2⟩ := HB2.out
      have HL2 := Lib.hid R2.out.2
      go_wp2_with fail
      refine (implHeapOk_any _ n c1 (arrI (n / 2) L) HL2.out _ (by omega) (arrI_wf HW.out _) R2.out.1.at_).mono ?_
      rintro e w3 ⟨rfl, hb3⟩
      have q0' := (bcell hb3).1 hb 0 HB2.out.lt
      rw [q0] at q0'
      rw [show heapI (arrI (n / 2) L) = r from by rw [HN.out]; exact HR.out]
      cases r with
      | true =>
        go_wp2
        go_ret2
        refine ⟨_, rfl, ?_, B2.out.trans_ hb3⟩
        have hl := HL2.out
        rw [HLT.out (by simp), ← HN.out]
        have h5 := Owns.bl R2.out.1 hb3
        rw [← hl] at h5
        unfold OwnI
        rw [← hl]
        exact Owns.at_base h5 hBg
      | false =>
        go_wp2
        go_ret2
        exact ⟨_, rfl, by rw [HLF.out (by simp)]; exact Owns.nil_ _ _ _ _, B2.out.trans_ hb3⟩
  exact key _ rfl

end Go.Proofs.Ytedajkbnkfanmaa
