/-
  What is proved here: slices.Concat over three slices of arcs makes a new list of all of them. No conditions beyond those that each theorem states.
-/
import Derived.Test.YtelgjfflhcmljaaE1
import Derived.Test.YtelgjfflhcmljaaW2
import Derived.Deep.AppendLies
import Derived.Deep.Draws
import Derived.Maps.AppendAt
import Derived.OwnWalk
import Derived.Lib.AppendZeros
set_option linter.unusedSimpArgs false
set_option linter.unusedVariables false
namespace Go.Proofs.Ytelgjfflhcmljaa
open Go.RowKit



section
variable {w w' : World} {B B' size n : Nat} {A : Option Addr} {xs : List Value}
end

section
variable {P : Program} (w : World)





end

theorem cs3_split : ∀ (l : List Arc3) (j : Nat) (u : Value), (cs3 l)[j]? = some u → ∃ (k r : Nat) (h : k < l.length), r < 3 ∧ j = k * 3 + r ∧ u = (if r = 0 then .int .i64 l[k].1 else if r = 1 then .int .i64 l[k].2.1 else .int .i64 l[k].2.2) := by
  intro l j u h
  have hj : j < (cs3 l).length := (List.getElem?_eq_some_iff.1 h).1
  rw [cs3_length] at hj
  have hk : j / 3 < l.length := by omega
  obtain ⟨a, b, c⟩ := cs3_at l (j / 3) hk
  have e : j = j / 3 * 3 + j % 3 := by omega
  refine ⟨j / 3, j % 3, hk, by omega, e, ?_⟩
  have h3 : j % 3 = 0 ∨ j % 3 = 1 ∨ j % 3 = 2 := by omega
  rcases h3 with h3 | h3 | h3
  · rw [h3] at e ⊢
    rw [e, Nat.add_zero, a] at h
    injection h with h
    exact h.symm
  · rw [h3] at e ⊢
    rw [e, b] at h
    injection h with h
    exact h.symm
  · rw [h3] at e ⊢
    rw [e, c] at h
    injection h with h
    exact h.symm
theorem add_none (g off j : Nat) : (⟨g, off, none⟩ : Addr).add j = ⟨g, off + j, none⟩ := by
  unfold Addr.add
  split
  · rename_i h; subst h; rfl
  · rfl
theorem reads_of {w : World} {B : Nat} {A : Option Addr} {L : List Arc3} {n : Nat} (hn : n = L.length) (h : ArcsAt w B A L) : Reads w B 3 A n (cs3 L) := by
  refine ⟨by rw [cs3_length, hn], fun h0 => ?_⟩
  obtain ⟨g, off, rfl, hg, hc⟩ := h (by omega)
  refine ⟨_, rfl, hg, fun j u hu => ?_⟩
  obtain ⟨k, r, hk, hr, rfl, rfl⟩ := cs3_split L j u hu
  obtain ⟨a, b, c⟩ := hc k hk
  rw [add_none, ← Nat.add_assoc]
  have h3 : r = 0 ∨ r = 1 ∨ r = 2 := by omega
  rcases h3 with rfl | rfl | rfl
  · exact a
  · exact b
  · exact c
theorem cs3_one : ∀ (l : List Arc3), ∀ u ∈ cs3 l, u.oneCell' = true
  | [], u, h => by simp [cs3] at h
  | a :: l, u, h => by
    simp only [cs3, List.mem_cons] at h
    rcases h with rfl | rfl | rfl | h
    · rfl
    · rfl
    · rfl
    · exact cs3_one l u h

theorem size_zero3 (n : Nat) : (Builtin.zeroCells (Value.agg #[.int .i64 0, .int .i64 0, .int .i64 0]).cells n).size = n * 3 := by rw [size_zeroCells]; rfl

theorem own_grown (w : World) (n : Nat) (hn : n ≤ 4194304) :
    OwnA (w.drew.alloc (.cells (Builtin.zeroCells (Value.agg #[.int .i64 0, .int .i64 0, .int .i64 0]).cells n ++ Builtin.zeroCells (Value.agg #[.int .i64 0, .int .i64 0, .int .i64 0]).cells (grownCap w n 0 82 - n)) 82)) w.heap.size (.slice (some ⟨w.heap.size, 0, none⟩) 0 (grownCap w n 0 82)) [] := by
  have h1 := grownCap_ge w n 0 82
  have h2 := grownCap_le_maxLen w n 0 82 (by unfold maxLen; omega)
  exact World.ownsRow_made (base := w.heap.size) (e := 82) (size := 3) w.drew _ _ (Nat.le_refl _) h2 (by rw [Array.size_append, size_zero3, size_zero3]; omega)

set_option maxRecDepth 100000 in
set_option maxHeartbeats 1000000 in
theorem grow_any (m : Int) (n : Nat) (hmn : m = (n : Int)) (w : World) (hn : n ≤ 4194304) :
    Calls Try.prog 155 #[.slice none 0 0, .int .i64 m] w (ListMade [] w) := by
  subst hmn
  obtain ⟨i0, hi, hz0, hz1, hz2⟩ := info_parts infoArc
  rcases Nat.eq_zero_or_pos n with rfl | hpos
  · clear hi hz0 hz1 hz2
    go_enter Try.func155, Try.ntmps155
    go_wp2
    go_ret
    exact ⟨_, rfl, OwnA.nil_ _ _, Bl.refl _⟩
  · have RUN := Lib.hid (fun wx : World => Lib.run_append_nil_zeros (P := Try.prog) wx 27 3 27 82 i0 _ .i64 .i64 Try.underlying27 Try.underlying3 hi hz0 n hpos (by rw [hz1]; omega) (by omega) (by rw [hz2]; omega))
    clear hi hz0 hz1 hz2
    go_enter Try.func155, Try.ntmps155
    go_wp2_with (at_builtin; refine Lib.wpList_append_run _ rfl (.tmp 20) (.tmp 21) 27 3 rfl _ _ rfl rfl _ _ (RUN.out _) ?_)
    go_ret
    exact ⟨_, rfl, own_grown w n hn, (Bl.alloc_ (Bl.drew_ (Bl.refl w)) _)⟩

theorem own_append {w : World} {B : Nat} {v : Value} {F G : List Arc3} {t : Nat} (h : w.ownsRow B 82 3 v t (cs3 F ++ cs3 G)) (ht : t = F.length + G.length) : OwnA w B v (F ++ G) := by
  unfold OwnA
  rw [cs3_append, List.length_append, ← ht]
  exact h

set_option maxRecDepth 100000 in
set_option maxHeartbeats 4000000 in
theorem concat_any (A0 A1 A2 : Option Addr) (n0 c0 n1 c1 n2 c2 : Nat) (L0 L1 L2 : List Arc3) (h0 : n0 = L0.length) (h1 : n1 = L1.length) (h2 : n2 = L2.length) (gs : Nat) (w : World) (m0 : n0 ≤ 1048576) (m1 : n1 ≤ 1048576) (m2 : n2 ≤ 1048576)
    (s0 : w.cell? ⟨gs, 0, none⟩ = some (.slice A0 n0 c0)) (s1 : w.cell? ⟨gs, 1, none⟩ = some (.slice A1 n1 c1)) (s2 : w.cell? ⟨gs, 2, none⟩ = some (.slice A2 n2 c2))
    (a0 : ArcsAt w w.heap.size A0 L0) (a1 : ArcsAt w w.heap.size A1 L1) (a2 : ArcsAt w w.heap.size A2 L2) :
    Calls Try.prog 122 #[.slice (some ⟨gs, 0, none⟩) 3 3] w (ListMade (L0 ++ L1 ++ L2) w) := by
  obtain ⟨i0, hi, hz0, hz1, hz2⟩ := info_parts infoArc
  have I0 := Lib.hid hi
  have I1 := Lib.hid hz0
  have I2 := Lib.hid hz1
  have I3 := Lib.hid hz2
  have N0 := Lib.hid h0
  have N1 := Lib.hid h1
  have N2 := Lib.hid h2
  have K0 := Lib.hid a0
  have K1 := Lib.hid a1
  have K2 := Lib.hid a2
  have gw := World.block_lt_of_cell? _ _ s0
  have SC := Lib.hid (show ∀ wx, Bl w wx → wx.cell? ⟨gs, 0, none⟩ = some (.slice A0 n0 c0) ∧ wx.cell? ⟨gs, 1, none⟩ = some (.slice A1 n1 c1) ∧ wx.cell? ⟨gs, 2, none⟩ = some (.slice A2 n2 c2) from fun wx hb =>
    ⟨((bcell hb).1 _ _ gw).trans s0, ((bcell hb).1 _ _ gw).trans s1, ((bcell hb).1 _ _ gw).trans s2⟩)
  clear hi hz0 hz1 hz2 h0 h1 h2 a0 a1 a2
  go_enter Try.func122, Try.ntmps122
  go_wp2_with fail
  refine wp_loop_rounds 4 ?_
  rw [rounds_succ]
  go_wp2_with fail
  rw [rounds_succ]
  go_wp2_with fail
  rw [rounds_succ]
  go_wp2_with fail
  rw [rounds_succ]
  go_wp2_with fail
  refine (grow_any _ (n0 + n1 + n2) (by omega) _ (by omega)).mono ?_
  rintro e w1 ⟨v, rfl, hown, hb⟩
  have O := Lib.hid hown
  clear hown s0 s1 s2
  obtain ⟨s0, s1, s2⟩ := SC.out _ hb
  have z1 := hb.size
  go_wp2_with fail
  refine wp_loop_rounds 4 ?_
  rw [rounds_succ]
  go_wp2_with (at_builtin; refine wpList_append_any _ rfl (.tmp 31) (.tmp 32) _ rfl w.heap.size 82 i0 _ 3 24 Try.underlying27 I0.out I1.out I2.out I3.out rfl (by decide) _ 0 (cs3 ([] : List Arc3)) rfl O.out w1.heap.size A0 n0 c0 (cs3 L0) rfl (reads_of N0.out (K0.out.bl hb)) (cs3_one L0) ?c630 ?cby0 ?cba0 ?_)
  case c630 => simp [maxLen]; omega
  case cby0 => simp; omega
  case cba0 => omega
  intro v1 w2 hown1 hg1 _
  have O1 := Lib.hid (own_append (F := ([] : List Arc3)) (G := L0) hown1 (by have := N0.out; have := N1.out; have := N2.out; simp; try omega))
  have b2 : Bl w w2 := hb.grown_ hg1 (fun g hg => (O.out.lt g hg).1)
  have z2 := b2.size
  clear hown1 hg1 s0 s1 s2
  obtain ⟨s0, s1, s2⟩ := SC.out _ b2
  go_wp2_with fail
  rw [rounds_succ]
  go_wp2_with (at_builtin; refine wpList_append_any _ rfl (.tmp 31) (.tmp 32) _ rfl w.heap.size 82 i0 _ 3 24 Try.underlying27 I0.out I1.out I2.out I3.out rfl (by decide) _ (([] : List Arc3) ++ L0).length (cs3 (([] : List Arc3) ++ L0)) rfl O1.out w2.heap.size A1 n1 c1 (cs3 L1) rfl (reads_of N1.out (K1.out.bl b2)) (cs3_one L1) ?c631 ?cby1 ?cba1 ?_)
  case c631 => have := N0.out; simp [maxLen]; omega
  case cby1 => have := N0.out; simp; omega
  case cba1 => omega
  intro v2 w3 hown2 hg2 _
  have O2 := Lib.hid (own_append (F := (([] : List Arc3) ++ L0)) (G := L1) hown2 (by have := N0.out; have := N1.out; have := N2.out; simp; try omega))
  have b3 : Bl w w3 := b2.grown_ hg2 (fun g hg => (O1.out.lt g hg).1)
  have z3 := b3.size
  clear hown2 hg2 s0 s1 s2
  obtain ⟨s0, s1, s2⟩ := SC.out _ b3
  go_wp2_with fail
  rw [rounds_succ]
  go_wp2_with (at_builtin; refine wpList_append_any _ rfl (.tmp 31) (.tmp 32) _ rfl w.heap.size 82 i0 _ 3 24 Try.underlying27 I0.out I1.out I2.out I3.out rfl (by decide) _ (([] : List Arc3) ++ L0 ++ L1).length (cs3 (([] : List Arc3) ++ L0 ++ L1)) rfl O2.out w3.heap.size A2 n2 c2 (cs3 L2) rfl (reads_of N2.out (K2.out.bl b3)) (cs3_one L2) ?c632 ?cby2 ?cba2 ?_)
  case c632 => have := N0.out; have := N1.out; simp [maxLen]; omega
  case cby2 => have := N0.out; have := N1.out; simp; omega
  case cba2 => omega
  intro v3 w4 hown3 hg3 _
  have O3 := Lib.hid (own_append (F := (([] : List Arc3) ++ L0 ++ L1)) (G := L2) hown3 (by have := N0.out; have := N1.out; have := N2.out; simp; try omega))
  have b4 : Bl w w4 := b3.grown_ hg3 (fun g hg => (O2.out.lt g hg).1)
  have z4 := b4.size
  clear hown3 hg3 s0 s1 s2
  obtain ⟨s0, s1, s2⟩ := SC.out _ b4
  go_wp2_with fail
  rw [rounds_succ]
  go_wp2_with fail
  go_ret
  exact ⟨_, rfl, O3.out, b4⟩

end Go.Proofs.Ytelgjfflhcmljaa
