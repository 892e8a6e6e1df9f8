/-
  What is proved here: HeapOf, HeapPop and HeapLess as the model has them. No conditions beyond those that each theorem states.
-/
import Derived.Test.YtedajkbnkfanmaaJ5
set_option linter.unusedSimpArgs false
set_option linter.unusedVariables false
namespace Go.Proofs.Ytedajkbnkfanmaa
open Go.RowKit

theorem start_at (B : Nat) (wx : World) (hB : B ≤ wx.heap.size) : (wx.alloc (.cells #[] 30)).ownsRow B 30 2 (.slice (some ⟨wx.heap.size, 0, none⟩) 0 0) 0 [] :=
  World.ownsRow_made (base := B) (e := 30) (size := 2) wx #[] 0 hB (by unfold maxLen; omega) rfl
theorem heapOfL_yes {L : List It} (h : heapI (arrI (L.length / 2) L) = true) : heapOfL L = arrI (L.length / 2) L := if_pos h
theorem heapOfL_no {L : List It} (h : heapI (arrI (L.length / 2) L) = false) : heapOfL L = [] := if_neg (by rw [h]; simp)

set_option maxRecDepth 100000 in
set_option maxHeartbeats 1000000 in
theorem specHeapOf_any (A : Option Addr) (n c : Nat) (L : List It) (hn : n = L.length) (w : World) (hm : n ≤ 1048576) (H1 : ItemsAt w w.heap.size A L) :
    Calls Try.prog 18 #[.slice A n c] w (ItemsOk (heapOfL L) (heapI (arrI (L.length / 2) L)) w) := by
  obtain ⟨i0, hi, hz0, hz1, hz2⟩ := info_parts infoItem
  have I0 := Lib.hid hi
  have I1 := Lib.hid hz0
  have I2 := Lib.hid hz1
  have I3 := Lib.hid hz2
  have K1 := Lib.hid H1
  have HN := Lib.hid hn
  have START := Lib.hid (start_at w.heap.size w (Nat.le_refl _))
  clear H1 hn hi hz0 hz1 hz2
  have key : ∀ r : Bool, heapI (arrI (L.length / 2) L) = r → Calls Try.prog 18 #[.slice A n c] w (ItemsOk (heapOfL L) r w) := by
    intro r hr
    have HR := Lib.hid hr
    clear hr
    obtain ⟨q, hqd⟩ : ∃ q, q = n / 2 := ⟨_, rfl⟩
    have hqe : (n : Int) / 2 = (q : Int) := by omega
    have hqn : q ≤ n := by omega
    have HQ := Lib.hid hqd
    clear hqd
    go_enter Try.func18, Try.ntmps18
    go_wp2_with (at_builtin; refine wpList_append_any _ rfl (.tmp 6) (.tmp 7) _ rfl w.heap.size 30 i0 _ 2 16 Try.underlying24 I0.out I1.out I2.out I3.out rfl (by decide) _ 0 [] rfl (START.out) (w.heap.size) A n c (cs2 L) rfl ?cr (one2 L) ?c3 ?c4 ?c5 ?_)
    case cr => exact (ItemsAt.bl' K1.out (Nat.le_refl _) (by repeat' (first | exact Bl.refl _ | with_reducible assumption | with_reducible refine Bl.drew_ ?_ | with_reducible refine Bl.drewN_ ?_ _ | with_reducible refine Bl.alloc_ ?_ _ | with_reducible refine Bl.trans_ ?_ (by assumption) | with_reducible refine Bl.trans_ ?_ (And.left (by assumption))))).reads HN.out
    case c3 => unfold maxLen; omega
    case c4 => omega
    case c5 => simp <;> omega
    intro v w1 hown hgr hblk
    try simp only [Nat.zero_add, List.nil_append] at hown
    have O := Lib.hid (show Owns 30 2 w1 w.heap.size v n (cs2 L) from hown)
    have B1 : Bl w w1 := ((Bl.refl w).alloc_ _).grown_ hgr (fun g hg => by simp [Value.ownBlock] at hg; omega)
    clear hown hgr hblk
    have hs := B1.size
    obtain ⟨A', c', rfl, -, -, -, hsome⟩ := Owns.shape O.out
    have ON := Lib.hid (show OwnI w1 w.heap.size (.slice A' n c') L from by unfold OwnI; rw [← HN.out]; exact O.out)
    clear O
    have HS := Lib.hid hsome
    clear hsome
    go_wp2_with fail
    go_loopw [5] (fun p wr => ∃ (k : Nat) (L' : List It), p = .int .i64 ((k : Int) - 1) ∧ k ≤ q ∧ OwnI wr w.heap.size (.slice A' n c') L' ∧ Bl w wr ∧ n = L'.length ∧ arrI k L' = arrI q L) (fun p _ => (intOf p + 1).toNat)
    case atStart => exact ⟨q, L, rfl, Nat.le_refl _, ON.out, B1, HN.out, rfl⟩
    case round =>
      obtain ⟨k, L', rfl, hk, hO', hB', hl', hE⟩ := hrel
      have O' := Lib.hid hO'
      have E := Lib.hid hE
      have HL' := Lib.hid hl'
      clear hO' hE hl' hqe
      rcases k with _ | k
      · have hA := Lib.hid (O'.out.at_)
        have EL := Lib.hid (show L' = arrI (L.length / 2) L from by rw [← HN.out, ← HQ.out, ← E.out]; rfl)
        go_wp2_with fail
        refine (specHeapOk_any A' n c' L' HL'.out _ hm hA.out).mono ?_
        rintro e w2 ⟨rfl, hb2⟩
        rw [show heapI L' = r from by rw [EL.out]; exact HR.out]
        cases r with
        | true =>
          go_wp2
          go_ret2
          exact ⟨_, rfl, by rw [heapOfL_yes HR.out, ← EL.out]; exact Owns.bl O'.out hb2, hB'.trans_ hb2⟩
        | false =>
          go_wp2
          go_ret2
          exact ⟨_, rfl, by rw [heapOfL_no HR.out]; exact Owns.nil_ _ _ _ _, hB'.trans_ hb2⟩
      · have ek : ((k + 1 : Nat) : Int) - 1 = (k : Int) := by omega
        have hn0 : 0 < n := by omega
        have hO2 := O'.out
        obtain ⟨A2, c2, e, -, -, -, hs2⟩ := Owns.shape hO2
        rw [← HL'.out] at e hs2
        injection e with e1 e2 e3
        subst e1
        obtain ⟨g, rfl, hBg, hgl, -⟩ := hs2 hn0
        have R := Lib.hid (show RowI wr g n c' L' from ⟨Owns.self_ (by unfold OwnI at hO2; rw [← HL'.out] at hO2; exact hO2) |> fun h => (by unfold OwnI; rw [← HL'.out]; exact h), HL'.out⟩)
        clear hO2 hs2
        rw [ek]
        clear e2 e3
        go_wp2_with fail
        refine (l2Down_any g n c' k L' _ hm R.out (by omega)).mono ?_
        rintro e w2 ⟨rfl, hR2, hG2⟩
        have R2 := Lib.hid hR2
        have G2 := Lib.hid hG2
        clear hR2 hG2 ek
        go_wp2
        go_roundw
        case rel => exact ⟨k, downI L' k, rfl, by omega, Owns.at_base (show Owns 30 2 w2 g (.slice (some ⟨g, 0, none⟩) n c') n _ from (by have h := R2.out.1; unfold OwnI at h; rw [← R2.out.2] at h; exact h)) hBg |> fun h => (by unfold OwnI; rw [← R2.out.2]; exact h), hB'.grown_ G2.out (fun i h => by injection h with h; omega), R2.out.2, E.out⟩
        case measure => simp [intOf] <;> omega
  exact key _ rfl

end Go.Proofs.Ytedajkbnkfanmaa
