/-
  What is proved here: a graph and a few unlike nodes that are drawn by a code; the laws' small functions that hold lists and graphs against each other, and ask for nodes; a graph and two lists of unlike nodes that are drawn by a code; rows held against each other by a law. No conditions beyond those that each theorem states.
-/
import Derived.Test.YtlddileiecnkjaaV9G15
import Derived.Test.YtlddileiecnkjaaV9UN
import Derived.Test.YtlddileiecnkjaaV9G06
import Derived.Deep.RegionLaw
import Derived.Test.YtlddileiecnkjaaV9G11
set_option linter.unusedSimpArgs false
set_option linter.unusedVariables false
namespace Go.Proofs.Ytlddileiecnkjaa
open Go.RowKit


theorem RdAny.grow_ {w w' : World} {rd : Nat} {A : Option Addr} {n c : Nat} {row : Option Nat} (h : RdAny w rd A n c) (hg : w.grownBy w' row) (hne : some rd ≠ row) (hA : 0 < n → ∀ g off, A = some ⟨g, off, none⟩ → some g ≠ row) : RdAny w' rd A n c := by
  obtain ⟨p, hr, hp, hc⟩ := h
  refine ⟨p, World.rowIs.of_block hr (hg.block rd hr.lt hne), hp, fun h0 => ?_⟩
  obtain ⟨g, off, e, hne', hlt, hcell⟩ := hc h0
  refine ⟨g, off, e, hne', Nat.lt_of_lt_of_le hlt hg.size, fun j hj => ?_⟩
  obtain ⟨b, h1, h2⟩ := hcell j hj
  exact ⟨b, hg.cell h1 (hA h0 g off e), h2⟩
theorem grown_own {a b c : World} {row row2 : Option Nat} (h : a.grownBy b row) (k : b.grownBy c row2) (hr : ∀ g, row2 = some g → a.heap.size ≤ g) : a.grownBy c row :=
  ⟨k.os.trans h.os, k.tape.trans h.tape, k.output.trans h.output, Nat.le_trans h.size k.size, fun i hi hne => (k.block i (Nat.lt_of_lt_of_le hi h.size) (fun e => by have := hr i e.symm; omega)).trans (h.block i hi hne)⟩
theorem own_none (w : World) (B : Nat) (hB : B ≤ w.heap.size) : OwnN (w.alloc (.cells #[] 2)) B (.slice (some ⟨w.heap.size, 0, none⟩) 0 0) [] := by
  refine ⟨by simp [csI], .inr ⟨w.heap.size, 0, #[], by simp, hB, ?_, by simp, by unfold maxLen; omega, by simp, ?_⟩⟩
  · exact World.alloc_heap_new w _
  · simp [csI]

set_option maxRecDepth 100000 in
set_option maxHeartbeats 4000000 in
theorem some_any (most : Int) (N : Int) (v : Value) (rd : Nat) (A : Option Addr) (n c : Nat) (w : World) (hn : n ≤ 1099511627776) (m0 : 0 ≤ most) (m1 : most ≤ 16) (h0 : -9223372036854775808 ≤ N) (h1 : N ≤ 9223372036854775807) (HR : RdAny w rd A n c) (HA : 0 < n → ∀ g off, A = some ⟨g, off, none⟩ → g < w.heap.size) :
    Calls Try.prog 98 #[.pointer (some ⟨rd, 0, none⟩), .agg #[.int .i64 N, v], .int .i64 most] w
      (fun e w' => ∃ (q : Value) (V : List Int), e = .returned q ∧ OwnN w' w.heap.size q V ∧ V.length ≤ 64 ∧ RdAny w' rd A n c ∧ w.grownBy w' (some rd)) := by
  obtain ⟨i0, hi, hz0, hz1, hz2⟩ := info_parts infoInt
  have I0 := Lib.hid hi
  have I1 := Lib.hid hz0
  have I2 := Lib.hid hz1
  have I3 := Lib.hid hz2
  clear hi hz0 hz1 hz2
  have R := Lib.hid HR
  have AL := Lib.hid HA
  have hlt := HR.lt
  clear HR HA
  go_enter Try.func98, Try.ntmps98
  go_wp2_with fail
  refine (below_any (most + 1) rd A n c _ hn (by omega) (R.out.bl (by repeat' (first | exact Bl.refl _ | with_reducible assumption | with_reducible refine Bl.drew_ ?_ | with_reducible refine Bl.drewN_ ?_ _ | with_reducible refine Bl.alloc_ ?_ _ | with_reducible refine Bl.trans_ ?_ (by assumption) | with_reducible refine Bl.trans_ ?_ (And.left (by assumption)))))).mono ?_
  rintro e w1 ⟨b, hb, rfl, hr, hg⟩
  have b0 : 0 ≤ b := hb.1
  have b1 : b ≤ 16 := by omega
  have G1 := Lib.hid (show (w.alloc (.cells #[.int .i64 N, v] 33)).grownBy w1 (some rd) from grown_trans (bl_grown (Bl.alloc_ (Bl.refl _) _) _) hg)
  have O1 := Lib.hid (show OwnN w1 (w.heap.size + 1) (.slice (some ⟨w.heap.size + 1, 0, none⟩) 0 0) [] from by
    have h := own_none (w.alloc (.cells #[.int .i64 N, v] 33)) (w.heap.size + 1) (by simp)
    have h2 := Owns.grown_ h hg (fun g hg' e => by
      injection e with e
      have := (Owns.lt h g hg').1
      omega)
    unfold OwnN
    simpa using h2)
  have R1 := Lib.hid hr
  obtain ⟨X, hX⟩ : ∃ X, X = w.alloc (.cells #[.int .i64 N, v] 33) := ⟨_, rfl⟩
  have SX : X.heap.size = w.heap.size + 1 := by rw [hX, World.size_alloc]
  have BOX := Lib.hid (show ∀ wx, X.grownBy wx (some rd) → wx.cell? ⟨w.heap.size, 0, none⟩ = some (.int .i64 N) ∧ wx.cell? ⟨w.heap.size, 1, none⟩ = some v from fun wx h => by
    rw [hX] at h
    exact ⟨h.cell (by simp [go_sem]) (by simp; omega), h.cell (by simp [go_sem]) (by simp; omega)⟩)
  have BW := Lib.hid (show Bl w X from by rw [hX]; exact Bl.alloc_ (Bl.refl w) _)
  rw [← hX] at G1
  clear hX hr hg hb
  go_wp2_with fail
  go_loopw [7, 8, 9] (fun q i _ wr => ∃ (m : Int) (V : List Int), 0 ≤ m ∧ m ≤ 16 ∧ i = .int .i64 m ∧ (V.length : Int) + m ≤ 16 ∧ OwnN wr (w.heap.size + 1) q V ∧ RdAny wr rd A n c ∧ X.grownBy wr (some rd)) (fun _ i _ _ => (intOf i).toNat)
  case atStart => exact ⟨b, [], b0, b1, rfl, by simp; omega, O1.out, R1.out, G1.out⟩
  case round =>
    obtain ⟨m, V, mm0, mm1, rfl, hVm, hO, hR, hG⟩ := hrel
    have OO := Lib.hid hO
    have RR := Lib.hid hR
    have GG := Lib.hid hG
    obtain ⟨AV, cV, rfl, -, -, -, -⟩ := OwnN.shape hO
    clear hO hR hG O1 R1 G1
    by_cases hm : 0 < m
    · obtain ⟨y0, y1⟩ := BOX.out _ GG.out
      go_wp2_with fail
      refine (node_any N v rd A n c _ hn h0 h1 RR.out).mono ?_
      rintro e w4 ⟨x, hx, rfl, hr, hg⟩
      have O4 := Lib.hid (show OwnN w4 (w.heap.size + 1) (.slice AV V.length cV) V from Owns.grown_ OO.out hg (fun g hg' e => by
        injection e with e
        have := (Owns.lt OO.out g hg').1
        omega))
      have R4 := Lib.hid hr
      have G4 := Lib.hid (grown_trans GG.out hg)
      clear hx hr hg y0 y1
      obtain ⟨AA, cc, e4, -, hi4, -, -⟩ := OwnN.shape O4.out
      injection e4 with e41 e42 e43
      subst e41
      subst e43
      clear e42
      go_wp2_with fail
      refine (l1Has_any AV cV V V.length rfl x _ (by omega) hi4).mono ?_
      rintro e w5 ⟨rfl, hb5⟩
      have O5 := Lib.hid (O4.out.bl hb5)
      have R5 := Lib.hid (R4.out.bl hb5)
      have G5 := Lib.hid (grown_bl G4.out hb5)
      clear hb5 hi4
      cases hx : decide (x ∈ V) with
      | true =>
        go_wp2_with fail
        go_roundw
        case rel => exact ⟨m - 1, V, by omega, by omega, by go_num, by omega, O5.out, R5.out, G5.out⟩
        case measure => simp [intOf]; omega
      | false =>
        obtain ⟨lv, hlv⟩ : ∃ lv, lv = V.length := ⟨_, rfl⟩
        have HLV := Lib.hid hlv
        have OW := Lib.hid (show w5.ownsRow (w.heap.size + 1) 2 1 (.slice AV lv cV) lv (csI V) from by rw [hlv]; exact O5.out)
        rw [← hlv]
        have hlv16 : lv ≤ 16 := by omega
        have s5 := G5.out.size
        clear hlv
        go_wp2_with (at_builtin; refine wpList_append_any _ rfl (.tmp 26) (.tmp 28) _ rfl (w.heap.size + 1) 2 i0 _ 1 8 Try.underlying24 I0.out I1.out I2.out I3.out rfl (by decide) _ lv (csI V) rfl (World.ownsRow.alloc OW.out _) (w5.heap.size + 1) (some ⟨w5.heap.size, 0, none⟩) 1 1 [.int .i64 x] rfl ?c0 (by simp [Value.oneCell']) ?c3 ?c4 ?c5 ?_)
        case c0 =>
          refine ⟨rfl, fun _ => ⟨_, rfl, by show w5.heap.size < w5.heap.size + 1; omega, fun x u hj => ?_⟩⟩
          match x, hj with
          | 0, hj => simp at hj; subst hj; simp [Addr.add, go_sem]
          | (x + 1), hj => simp at hj
        case c3 => unfold maxLen; omega
        case c4 => omega
        case c5 => first | omega | (simp; omega)
        intro v' w8 hown' hgrow hwh
        have O8 := Lib.hid (OwnN.snoc (V := V) (x := x) (n := lv) HLV.out hown')
        have hol := fun g h => (Owns.lt OW.out g h).1
        have GX := Lib.hid (grown_bl G5.out (Bl.alloc_ (Bl.refl w5) (.cells #[.int .i64 x] 2)))
        have G8 := Lib.hid (grown_own GX.out hgrow (fun g hg => by have := hol g hg; omega))
        have R8 := Lib.hid ((R5.out.bl (Bl.alloc_ (Bl.refl w5) (.cells #[.int .i64 x] 2))).grow_ hgrow (fun e => by have := hol rd e.symm; omega) (fun h0 g off e e2 => by have := hol g e2.symm; have := AL.out h0 g off e; omega))
        clear hown' hgrow hwh
        go_wp2
        go_roundw
        case rel => exact ⟨m - 1, V ++ [x], by omega, by omega, by go_num, by have := HLV.out; simp; omega, O8.out, R8.out, G8.out⟩
        case measure => simp [intOf]; omega
    · have hm' : decide (0 < m) = false := by simpa using hm
      go_wp2
      go_ret
      exact ⟨_, rfl, V, OO.out.low (by omega), by omega, RR.out, grown_trans (bl_grown BW.out _) GG.out⟩




end Go.Proofs.Ytlddileiecnkjaa

set_option linter.unusedSimpArgs false
set_option linter.unusedVariables false
namespace Go.Proofs.Ytlddileiecnkjaa
open Go.RowKit

set_option maxHeartbeats 400000 in
theorem sameInts_yes (A1 A2 : Option Addr) (c1 c2 : Nat) (V : List Int) (n : Nat) (hn : n = V.length) (w : World) (hm : n ≤ 9223372036854775807) (H1 : IntsAt w w.heap.size A1 V) (H2 : IntsAt w w.heap.size A2 V) :
    Calls Try.prog 99 #[.slice A1 n c1, .slice A2 n c2] w fun e w' => e = .returned (.bool true) ∧ Bl w w' := by
  have K1 := Lib.hid H1
  have K2 := Lib.hid H2
  have HN := Lib.hid hn
  have hnn : ((n : Int) != (n : Int)) = false := by simp
  clear H1 H2 hn
  go_enter Try.func99, Try.ntmps99
  go_wp2
  go_loopw [5] (fun i wr => ∃ k : Nat, k ≤ n ∧ i = .int .i64 k ∧ Bl w wr) (fun i _ => n - (intOf i).toNat)
  case atStart => exact ⟨0, by omega, rfl, Bl.refl w⟩
  case round =>
    obtain ⟨k, hk, rfl, hbl⟩ := hrel
    by_cases hlt : k < n
    · have hkl : k < V.length := by have := HN.out; omega
      obtain ⟨g1, o1, rfl, hg1, hc1⟩ := K1.out.cell (by omega)
      obtain ⟨g2, o2, rfl, hg2, hc2⟩ := K2.out.cell (by omega)
      have p1 := hc1 k hkl
      have p2 := hc2 k hkl
      clear hc1 hc2
      rw [← (bcell hbl).1 _ _ hg1] at p1
      rw [← (bcell hbl).1 _ _ hg2] at p2
      generalize V[k] = x at p1 p2
      have hxx : (x != x) = false := by simp
      have i1 : (0 : Int) ≤ (k : Int) := by omega
      have i2 : (k : Int) < (n : Int) := by omega
      go_wp2
      go_quiet (fail)
      go_wp2
      go_roundw
      case rel => exact ⟨k + 1, by omega, by go_num, (by repeat' (first | exact Bl.refl _ | with_reducible assumption | with_reducible refine Bl.drew_ ?_ | with_reducible refine Bl.drewN_ ?_ _ | with_reducible refine Bl.alloc_ ?_ _ | with_reducible refine Bl.trans_ ?_ (by assumption) | with_reducible refine Bl.trans_ ?_ (And.left (by assumption))))⟩
      case measure => simp [intOf]; omega
    · go_wp2
      go_ret
      exact ⟨rfl, hbl⟩




end Go.Proofs.Ytlddileiecnkjaa

set_option linter.unusedSimpArgs false
set_option linter.unusedVariables false
namespace Go.Proofs.Ytlddileiecnkjaa
open Go.RowKit

set_option maxHeartbeats 1000000 in
theorem sameRows_yes (A1 A2 : Option Addr) (c1 c2 b1 b2 : Nat) (R : List (List Int)) (n : Nat) (hn : n = R.length) (w : World) (hm : n ≤ 9223372036854775807) (hr : ∀ r ∈ R, r.length ≤ 9223372036854775807) (H1 : RowsAt w b1 w.heap.size A1 R) (H2 : RowsAt w b2 w.heap.size A2 R) :
    Calls Try.prog 38 #[.slice A1 n c1, .slice A2 n c2] w fun e w' => e = .returned (.bool true) ∧ Bl w w' := by
  have K1 := Lib.hid H1
  have K2 := Lib.hid H2
  have HN := Lib.hid hn
  have HR := Lib.hid hr
  clear H1 H2 hn hr
  have hnn : ((n : Int) != (n : Int)) = false := by simp
  go_enter Try.func38, Try.ntmps38
  go_wp2
  go_loopw [5] (fun i wr => ∃ k : Nat, k ≤ n ∧ i = .int .i64 k ∧ Bl w wr) (fun i _ => n - (intOf i).toNat)
  case atStart => exact ⟨0, by omega, rfl, Bl.refl _⟩
  case round =>
    obtain ⟨k, hk, rfl, hbl⟩ := hrel
    by_cases hlt : k < n
    · have hkl : k < R.length := by have := HN.out; omega
      obtain ⟨g1, o1, A3, c3, rfl, hg1, hc1, hi1⟩ := K1.out.row hkl
      obtain ⟨g2, o2, A4, c4, rfl, hg2, hc2, hi2⟩ := K2.out.row hkl
      have I1 := Lib.hid (hi1.bl hbl)
      have I2 := Lib.hid (hi2.bl hbl)
      have HL := Lib.hid (HR.out _ (List.getElem_mem hkl))
      obtain ⟨rl, hrl⟩ : ∃ rl, rl = R[k].length := ⟨_, rfl⟩
      rw [← hrl] at hc1 hc2
      have HRL := Lib.hid hrl
      have BB := Lib.hid hbl
      have i0 : (0 : Int) ≤ (k : Int) := by omega
      have i1 : (k : Int) < (n : Int) := by omega
      have HSH := Lib.hid (show ∀ wx, Bl wr wx → Bl wr wx ∧ wx.cell? ⟨g1, o1 + k, none⟩ = some (.slice A3 rl c3) ∧ wx.cell? ⟨g2, o2 + k, none⟩ = some (.slice A4 rl c4) from fun wx hb => ⟨hb, ((bcell (BB.out.trans_ hb)).1 _ _ hg1).trans hc1, ((bcell (BB.out.trans_ hb)).1 _ _ hg2).trans hc2⟩)
      clear hrl hi1 hi2 hbl hc1 hc2
      go_wp2_with fail
      refine wp_region_held_drew (S := fun wx => Bl wr wx ∧ wx.cell? ⟨g1, o1 + k, none⟩ = some (.slice A3 rl c3) ∧ wx.cell? ⟨g2, o2 + k, none⟩ = some (.slice A4 rl c4)) (by kernel_rfl) ?_ (fun hHeld => ?_)
      · (exact HSH.out _ (by repeat' (first | exact Bl.refl _ | with_reducible assumption | with_reducible refine Bl.drew_ ?_ | with_reducible refine Bl.drewN_ ?_ _ | with_reducible refine Bl.alloc_ ?_ _ | with_reducible refine Bl.trans_ ?_ (by assumption) | with_reducible refine Bl.trans_ ?_ (And.left (by assumption)))))
      refine wpAnyH_take (i := 0) (v := ?_) rfl (by kernel_rfl) (by kernel_rfl) (by kernel_rfl) (fun _ _ _ h => h) (Or.inl ⟨by kernel_rfl, ?_⟩) (by assumption) ?_
      rotate_left
      · (intro wx hSw; (try dsimp only at hSw); go_simp; try (with_reducible rfl))
      try simp only [Act.put, List.getElem_toArray, List.getElem_cons_succ, List.getElem_cons_zero, List.setIfInBounds_toArray, List.set_cons_zero, List.set_cons_succ]
      refine wpAnyH_take (i := 1) (v := ?_) rfl (by kernel_rfl) (by kernel_rfl) (by kernel_rfl) (fun _ _ _ h => h) (Or.inl ⟨by kernel_rfl, ?_⟩) (by assumption) ?_
      rotate_left
      · (intro wx hSw; (try dsimp only at hSw); go_simp; try (with_reducible rfl))
      try simp only [Act.put, List.getElem_toArray, List.getElem_cons_succ, List.getElem_cons_zero, List.setIfInBounds_toArray, List.set_cons_zero, List.set_cons_succ]
      refine wpAnyH_take (i := 2) (v := ?_) rfl (by kernel_rfl) (by kernel_rfl) (by kernel_rfl) (fun _ _ _ h => h) (Or.inl ⟨by kernel_rfl, ?_⟩) (by assumption) ?_
      rotate_left
      · (intro wx hSw; (try dsimp only at hSw); go_simp; try (with_reducible rfl))
      try simp only [Act.put, List.getElem_toArray, List.getElem_cons_succ, List.getElem_cons_zero, List.setIfInBounds_toArray, List.set_cons_zero, List.set_cons_succ]
      refine wpAnyH_take (i := 3) (v := ?_) rfl (by kernel_rfl) (by kernel_rfl) (by kernel_rfl) (fun _ _ _ h => h) (Or.inl ⟨by kernel_rfl, ?_⟩) (by assumption) ?_
      rotate_left
      · (intro wx hSw; (try dsimp only at hSw); go_simp; try (with_reducible rfl))
      try simp only [Act.put, List.getElem_toArray, List.getElem_cons_succ, List.getElem_cons_zero, List.setIfInBounds_toArray, List.set_cons_zero, List.set_cons_succ]
      refine wpAnyH_take (i := 4) (v := ?_) rfl (by kernel_rfl) (by kernel_rfl) (by kernel_rfl) (fun _ _ _ h => h) (Or.inl ⟨by kernel_rfl, ?_⟩) (by assumption) ?_
      rotate_left
      · (intro wx hSw; (try dsimp only at hSw); go_simp; try (with_reducible rfl))
      try simp only [Act.put, List.getElem_toArray, List.getElem_cons_succ, List.getElem_cons_zero, List.setIfInBounds_toArray, List.set_cons_zero, List.set_cons_succ]
      refine wpAnyH_take (i := 5) (v := ?_) rfl (by kernel_rfl) (by kernel_rfl) (by kernel_rfl) (fun _ _ _ h => h) (Or.inl ⟨by kernel_rfl, ?_⟩) (by assumption) ?_
      rotate_left
      · (intro wx hSw; (try dsimp only at hSw); go_simp; try (with_reducible rfl))
      try simp only [Act.put, List.getElem_toArray, List.getElem_cons_succ, List.getElem_cons_zero, List.setIfInBounds_toArray, List.set_cons_zero, List.set_cons_succ]
      refine wpAnyH_take (i := 6) (v := ?_) rfl (by kernel_rfl) (by kernel_rfl) (by kernel_rfl) (fun _ _ _ h => h) (Or.inl ⟨by kernel_rfl, ?_⟩) (by assumption) ?_
      rotate_left
      · (intro wx hSw; (try dsimp only at hSw); go_simp; try (with_reducible rfl))
      try simp only [Act.put, List.getElem_toArray, List.getElem_cons_succ, List.getElem_cons_zero, List.setIfInBounds_toArray, List.set_cons_zero, List.set_cons_succ]
      refine wpAnyH_take (i := 7) (v := ?_) rfl (by kernel_rfl) (by kernel_rfl) (by kernel_rfl) (fun _ _ _ h => h) (Or.inl ⟨by kernel_rfl, ?_⟩) (by assumption) ?_
      rotate_left
      · (intro wx hSw; (try dsimp only at hSw); go_simp; try (with_reducible rfl))
      try simp only [Act.put, List.getElem_toArray, List.getElem_cons_succ, List.getElem_cons_zero, List.setIfInBounds_toArray, List.set_cons_zero, List.set_cons_succ]
      refine wpAnyH_take (i := 8) (v := ?_) rfl (by kernel_rfl) (by kernel_rfl) (by kernel_rfl) (fun _ _ _ h => h) (Or.inl ⟨by kernel_rfl, ?_⟩) (by assumption) ?_
      rotate_left
      · (intro wx hSw; (try dsimp only at hSw); go_simp; try (with_reducible rfl))
      try simp only [Act.put, List.getElem_toArray, List.getElem_cons_succ, List.getElem_cons_zero, List.setIfInBounds_toArray, List.set_cons_zero, List.set_cons_succ]
      refine wpAnyH_take (i := 9) (v := ?_) rfl (by kernel_rfl) (by kernel_rfl) (by kernel_rfl) (fun _ _ _ h => h) (Or.inl ⟨by kernel_rfl, ?_⟩) (by assumption) ?_
      rotate_left
      · (intro wx hSw; (try dsimp only at hSw); go_simp; try (with_reducible rfl))
      try simp only [Act.put, List.getElem_toArray, List.getElem_cons_succ, List.getElem_cons_zero, List.setIfInBounds_toArray, List.set_cons_zero, List.set_cons_succ]
      refine wpAnyH_ready (rs := [10]) (by kernel_rfl) (by simp) ?_
      refine AllReadyH.cons rfl (fun K hK => ?_) AllReadyH.nil
      go_simp
      (go_at_call 99; refine (sameInts_yes A3 A4 c3 c4 R[k] rl HRL.out _ (by rw [HRL.out]; exact HL.out) (I1.out.bl (by repeat' (first | exact Bl.refl _ | with_reducible assumption | with_reducible refine Bl.drew_ ?_ | with_reducible refine Bl.drewN_ ?_ _ | with_reducible refine Bl.alloc_ ?_ _ | with_reducible refine Bl.trans_ ?_ (by assumption) | with_reducible refine Bl.trans_ ?_ (And.left (by assumption))))) (I2.out.bl (by repeat' (first | exact Bl.refl _ | with_reducible assumption | with_reducible refine Bl.drew_ ?_ | with_reducible refine Bl.drewN_ ?_ _ | with_reducible refine Bl.alloc_ ?_ _ | with_reducible refine Bl.trans_ ?_ (by assumption) | with_reducible refine Bl.trans_ ?_ (And.left (by assumption)))))).mono ?_; rintro e w1 ⟨rfl, hb1⟩)
      try (go_wp2_with fail)
      refine hK.out _ _ ?_ (fun hHeld => ?_)
      · (exact HSH.out _ (by repeat' (first | exact Bl.refl _ | with_reducible assumption | with_reducible refine Bl.drew_ ?_ | with_reducible refine Bl.drewN_ ?_ _ | with_reducible refine Bl.alloc_ ?_ _ | with_reducible refine Bl.trans_ ?_ (by assumption) | with_reducible refine Bl.trans_ ?_ (And.left (by assumption)))))
      clear hK K
      try simp only [Act.put, List.getElem_toArray, List.getElem_cons_succ, List.getElem_cons_zero, List.setIfInBounds_toArray, List.set_cons_zero, List.set_cons_succ]
      refine wpAnyH_take (i := 11) (v := ?_) rfl (by kernel_rfl) (by kernel_rfl) (by kernel_rfl) (fun _ _ _ h => h) (Or.inl ⟨by kernel_rfl, ?_⟩) (by assumption) ?_
      rotate_left
      · (intro wx hSw; (try dsimp only at hSw); go_simp; try (with_reducible rfl))
      try simp only [Act.put, List.getElem_toArray, List.getElem_cons_succ, List.getElem_cons_zero, List.setIfInBounds_toArray, List.set_cons_zero, List.set_cons_succ]
      refine wpAnyH_done (by kernel_rfl) ?_ _
      go_wp2
      go_roundw
      case rel => exact ⟨k + 1, by omega, by go_num, BB.out.trans_ hHeld.1⟩
      case measure => simp [intOf]; omega
    · go_wp2
      go_ret
      exact ⟨rfl, hbl⟩

/-- A graph and two lists of nodes that are drawn by a code. -/
def DrawnGNN (w : World) (e : Ending) (w' : World) : Prop :=
  ∃ (N : Int) (A' : Option Addr) (l c' : Nat) (L : List Arc3) (A3 : Option Addr) (k c3 : Nat) (V : List Int) (A4 : Option Addr) (k4 c4 : Nat) (U : List Int), e = .returned (.tuple #[.agg #[.int .i64 N, .slice A' l c'], .slice A3 k c3, .slice A4 k4 c4]) ∧
    Drawn w.heap.size w' N A' l c' L ∧ (k = V.length ∧ k ≤ 64 ∧ k ≤ c3 ∧ IntsAt w' w'.heap.size A3 V) ∧ (k4 = U.length ∧ k4 ≤ 64 ∧ k4 ≤ c4 ∧ IntsAt w' w'.heap.size A4 U) ∧ Bl w w'

set_option maxRecDepth 100000 in
set_option maxHeartbeats 4000000 in
theorem drawMatrix_any (A : Option Addr) (n c : Nat) (w : World) (hn : n ≤ 1099511627776) (H : BytesAt w A n) :
    Calls Try.prog 37 #[.slice A n c] w (DrawnGNN w) := by
  have HBY := Lib.hid H
  clear H
  go_enter Try.func37, Try.ntmps37
  go_wp2_with fail
  refine (open_any A n c _ (HBY.out.bl (by repeat' (first | exact Bl.refl _ | with_reducible assumption | with_reducible refine Bl.drew_ ?_ | with_reducible refine Bl.drewN_ ?_ _ | with_reducible refine Bl.alloc_ ?_ _ | with_reducible refine Bl.trans_ ?_ (by assumption) | with_reducible refine Bl.trans_ ?_ (And.left (by assumption)))))).mono ?_
  rintro e w1 ⟨rfl, hr, hb, hlt⟩
  have R1 := Lib.hid (show RdAny w1 (w.heap.size + 1) A n c from by rw [World.size_alloc] at hr; exact hr)
  have B1 := Lib.hid hb
  have s1 := hb.size
  simp only [World.size_alloc] at s1 hlt
  clear hr hb
  go_wp2_with fail
  refine (graph_any 9 (w.heap.size + 1) A n c _ hn (by omega) (by omega) R1.out (fun h0 g off e => by have := HBY.out.lt' h0 g off e; omega)).mono ?_
  rintro e w2 ⟨N, A', l, c', L, rfl, hd, hr, hg⟩
  have HL := Lib.hid hd.1
  have hl200 := hd.2.1
  have HN := Lib.hid hd.2.2.1
  have s2 := hg.size
  have B2 := Lib.hid (show Bl (w.alloc (.cells #[.int .i64 0, .slice none 0 0] 33)) w2 from B1.out.grown_ hg (fun g e => by injection e with e; simp; omega))
  have O2 := Lib.hid hd.2.2.2
  have R2 := Lib.hid hr
  obtain ⟨X, hX⟩ : ∃ X, X = w2.alloc (.cells #[.int .i64 N, .slice A' l c'] 33) := ⟨_, rfl⟩
  have BX := Lib.hid (show Bl w2 X from by rw [hX]; exact Bl.alloc_ (Bl.refl w2) _)
  have TX := Lib.hid (show Two X w2.heap.size (.int .i64 N) (.slice A' l c') from by rw [hX]; exact Two.new _ _ _)
  have SX := Lib.hid (show X.heap.size = w2.heap.size + 1 from by rw [hX, World.size_alloc])
  obtain ⟨t0, t1, -, -⟩ := TX.out.facts
  clear hd hr hg
  go_wp2_with fail
  rw [← hX]
  clear hX
  have R3 := Lib.hid (R2.out.bl BX.out)
  refine (some_any 4 N _ (w.heap.size + 1) A n c _ hn (by omega) (by omega) HN.out.1 HN.out.2 R3.out (fun h0 g off e => by have := HBY.out.lt' h0 g off e; have := BX.out.size; omega)).mono ?_
  rintro e w3 ⟨q3, V, rfl, hq, hV, hr, hg⟩
  obtain ⟨A3, c3, rfl, hc3, -, -, -⟩ := OwnN.shape hq
  obtain ⟨gb, hgb⟩ : ∃ gb, gb = w2.heap.size := ⟨_, rfl⟩
  obtain ⟨b1, hb1⟩ : ∃ b1, b1 = w1.heap.size := ⟨_, rfl⟩
  obtain ⟨k, hk⟩ : ∃ k, k = V.length := ⟨_, rfl⟩
  have HK := Lib.hid hk
  have l1 : w.heap.size + 1 < b1 := by omega
  have l2 : b1 ≤ gb := by omega
  have R4 := Lib.hid hr
  have GX := Lib.hid hg
  have O4 := Lib.hid (show OwnN w3 (gb + 1) (.slice A3 k c3) V from by
    have h := hq
    rw [SX.out, ← hgb, ← hk] at h
    exact h)
  have DG := Lib.hid (show ∀ wx, X.grownBy wx (some (w.heap.size + 1)) → Bl w wx ∧ OwnA wx b1 (.slice A' l c') L ∧ Two wx gb (.int .i64 N) (.slice A' l c') ∧ Two wx w.heap.size (.int .i64 0) (.slice none 0 0) from fun wx h => by
    subst hgb
    subst hb1
    exact ⟨(((Bl.alloc_ (Bl.refl w) _).trans_ B2.out).trans_ BX.out).grown_ h (fun g e => by injection e with e; omega),
      (OwnA.bl O2.out BX.out).grown_ h (fun g e => by injection e with e; omega),
      TX.out.grown_ h (fun e => by injection e with e; omega),
      (((Two.new w _ _).bl B2.out).bl BX.out).grown_ h (fun e => by injection e with e; omega)⟩)
  have nb : gb ≠ w.heap.size := by omega
  have nb' : w.heap.size ≠ gb := by omega
  have sX : X.heap.size ≤ w3.heap.size := hg.size
  rw [← hk] at hV hc3 ⊢
  have S2 := Lib.hid (show w2.heap.size + 1 ≤ w3.heap.size from by have := SX.out; omega)
  obtain ⟨D1, D2, D3, D4⟩ := DG.out _ GX.out
  have HSX := Lib.hid (show ∀ wx, X.grownBy wx (some (w.heap.size + 1)) → wx.cell? ⟨gb, 0, none⟩ = some (.int .i64 N) ∧ wx.cell? ⟨gb, 1, none⟩ = some (.slice A' l c') from fun wx h => by
    obtain ⟨-, -, D3, -⟩ := DG.out _ h
    exact ⟨D3.facts.1, D3.facts.2.1⟩)
  clear hq hk hr hg t0 t1 D1 D2 D3 D4 sX hb1
  go_wp2_with fail
  rw [← hgb]
  clear hgb
  refine wp_region_held_drew (S := fun wx => wx.cell? ⟨gb, 0, none⟩ = some (.int .i64 N) ∧ wx.cell? ⟨gb, 1, none⟩ = some (.slice A' l c')) (by kernel_rfl) ?_ (fun hHeld => ?_)
  · (first | exact HSX.out _ (grown_bl GX.out (Bl.drew_ (Bl.refl _))) | exact HSX.out _ G5.out | (refine ⟨?_, ?_⟩ <;> (simp only [World.cell?_setCell_other _ _ _ _ (show (⟨w.heap.size, 0, none⟩ : Addr) ≠ ⟨gb, 0, none⟩ from fun e => by injection e with e; omega), World.cell?_setCell_other _ _ _ _ (show (⟨w.heap.size, 0, none⟩ : Addr) ≠ ⟨gb, 1, none⟩ from fun e => by injection e with e; omega), World.cell?_setCell_other _ _ _ _ (show (⟨w.heap.size, 1, none⟩ : Addr) ≠ ⟨gb, 0, none⟩ from fun e => by injection e with e; omega), World.cell?_setCell_other _ _ _ _ (show (⟨w.heap.size, 1, none⟩ : Addr) ≠ ⟨gb, 1, none⟩ from fun e => by injection e with e; omega)]; first | exact (HSX.out _ G5.out).1 | exact (HSX.out _ G5.out).2)))
  refine wpAnyH_take (i := 0) (v := ?_) rfl (by kernel_rfl) (by kernel_rfl) (by kernel_rfl) (fun _ _ _ h => h) (Or.inl ⟨by kernel_rfl, ?_⟩) (by assumption) ?_
  rotate_left
  · (intro wx hSw; (try dsimp only at hSw); go_simp; try (with_reducible rfl))
  try simp only [Act.put, List.getElem_toArray, List.getElem_cons_succ, List.getElem_cons_zero, List.setIfInBounds_toArray, List.set_cons_zero, List.set_cons_succ]
  refine wpAnyH_take (i := 1) (v := ?_) rfl (by kernel_rfl) (by kernel_rfl) (by kernel_rfl) (fun _ _ _ h => h) (Or.inl ⟨by kernel_rfl, ?_⟩) (by assumption) ?_
  rotate_left
  · (intro wx hSw; (try dsimp only at hSw); go_simp; try (with_reducible rfl))
  try simp only [Act.put, List.getElem_toArray, List.getElem_cons_succ, List.getElem_cons_zero, List.setIfInBounds_toArray, List.set_cons_zero, List.set_cons_succ]
  refine wpAnyH_take (i := 2) (v := ?_) rfl (by kernel_rfl) (by kernel_rfl) (by kernel_rfl) (fun _ _ _ h => h) (Or.inl ⟨by kernel_rfl, ?_⟩) (by assumption) ?_
  rotate_left
  · (intro wx hSw; (try dsimp only at hSw); go_simp; try (with_reducible rfl))
  try simp only [Act.put, List.getElem_toArray, List.getElem_cons_succ, List.getElem_cons_zero, List.setIfInBounds_toArray, List.set_cons_zero, List.set_cons_succ]
  refine wpAnyH_take (i := 3) (v := ?_) rfl (by kernel_rfl) (by kernel_rfl) (by kernel_rfl) (fun _ _ _ h => h) (Or.inl ⟨by kernel_rfl, ?_⟩) (by assumption) ?_
  rotate_left
  · (intro wx hSw; (try dsimp only at hSw); go_simp; try (with_reducible rfl))
  try simp only [Act.put, List.getElem_toArray, List.getElem_cons_succ, List.getElem_cons_zero, List.setIfInBounds_toArray, List.set_cons_zero, List.set_cons_succ]
  refine wpAnyH_ready (rs := [4]) (by kernel_rfl) (by simp) ?_
  refine AllReadyH.cons rfl (fun K hK => ?_) AllReadyH.nil
  go_simp
  (go_at_call 98; refine (some_any 4 N _ (w.heap.size + 1) A n c _ hn (by omega) (by omega) HN.out.1 HN.out.2 (R4.out.bl (Bl.drew_ (Bl.refl _))) (fun h0 g off e => by have := HBY.out.lt' h0 g off e; have := S2.out; show g < w3.heap.size; omega)).mono ?_; rintro e w4 ⟨q4, U, rfl, hq4, hU, hr4, hg4⟩; have G5 := Lib.hid (grown_trans GX.out (grown_trans (bl_grown (Bl.drew_ (Bl.refl w3)) _) hg4)); have O5 := Lib.hid (show OwnN w4 (gb + 1) (.slice A3 k c3) V from Owns.grown_ (OwnN.bl O4.out (Bl.drew_ (Bl.refl _))) hg4 (fun g hg' e => by injection e with e; have := (Owns.lt O4.out g hg').1; omega)); obtain ⟨A4, c4, rfl, hc4, -, -, -⟩ := OwnN.shape hq4; have O6 := Lib.hid hq4; obtain ⟨k4, hk4⟩ : ∃ k4, k4 = U.length := ⟨_, rfl⟩; have HK4 := Lib.hid hk4; rw [← hk4] at hc4 O6 ⊢; obtain ⟨D1, D2, D3, D4⟩ := DG.out _ G5.out; have HD1 := Lib.hid D1; have HD2 := Lib.hid D2; obtain ⟨r0, r1, fr0, fr1⟩ := D4.facts; have HU := Lib.hid hU; have s4 := Lib.hid hg4.size; clear D1 D2 D3 D4 hq4 hr4 hg4 hk4 hU)
  try (go_wp2_with fail)
  refine hK.out _ _ ?_ (fun hHeld => ?_)
  · (first | exact HSX.out _ (grown_bl GX.out (Bl.drew_ (Bl.refl _))) | exact HSX.out _ G5.out | (refine ⟨?_, ?_⟩ <;> (simp only [World.cell?_setCell_other _ _ _ _ (show (⟨w.heap.size, 0, none⟩ : Addr) ≠ ⟨gb, 0, none⟩ from fun e => by injection e with e; omega), World.cell?_setCell_other _ _ _ _ (show (⟨w.heap.size, 0, none⟩ : Addr) ≠ ⟨gb, 1, none⟩ from fun e => by injection e with e; omega), World.cell?_setCell_other _ _ _ _ (show (⟨w.heap.size, 1, none⟩ : Addr) ≠ ⟨gb, 0, none⟩ from fun e => by injection e with e; omega), World.cell?_setCell_other _ _ _ _ (show (⟨w.heap.size, 1, none⟩ : Addr) ≠ ⟨gb, 1, none⟩ from fun e => by injection e with e; omega)]; first | exact (HSX.out _ G5.out).1 | exact (HSX.out _ G5.out).2)))
  clear hK K
  try simp only [Act.put, List.getElem_toArray, List.getElem_cons_succ, List.getElem_cons_zero, List.setIfInBounds_toArray, List.set_cons_zero, List.set_cons_succ]
  refine wpAnyH_ready (rs := [5]) (by kernel_rfl) (by simp) ?_
  refine AllReadyH.cons rfl (fun K hK => ?_) AllReadyH.nil
  go_simp
  refine hK.out _ _ ?_ (fun hHeld => ?_)
  · (first | exact HSX.out _ (grown_bl GX.out (Bl.drew_ (Bl.refl _))) | exact HSX.out _ G5.out | (refine ⟨?_, ?_⟩ <;> (simp only [World.cell?_setCell_other _ _ _ _ (show (⟨w.heap.size, 0, none⟩ : Addr) ≠ ⟨gb, 0, none⟩ from fun e => by injection e with e; omega), World.cell?_setCell_other _ _ _ _ (show (⟨w.heap.size, 0, none⟩ : Addr) ≠ ⟨gb, 1, none⟩ from fun e => by injection e with e; omega), World.cell?_setCell_other _ _ _ _ (show (⟨w.heap.size, 1, none⟩ : Addr) ≠ ⟨gb, 0, none⟩ from fun e => by injection e with e; omega), World.cell?_setCell_other _ _ _ _ (show (⟨w.heap.size, 1, none⟩ : Addr) ≠ ⟨gb, 1, none⟩ from fun e => by injection e with e; omega)]; first | exact (HSX.out _ G5.out).1 | exact (HSX.out _ G5.out).2)))
  clear hK K
  try simp only [Act.put, List.getElem_toArray, List.getElem_cons_succ, List.getElem_cons_zero, List.setIfInBounds_toArray, List.set_cons_zero, List.set_cons_succ]
  refine wpAnyH_take (i := 6) (v := ?_) rfl (by kernel_rfl) (by kernel_rfl) (by kernel_rfl) (fun _ _ _ h => h) (Or.inl ⟨by kernel_rfl, ?_⟩) (by assumption) ?_
  rotate_left
  · (intro wx hSw; (try dsimp only at hSw); go_simp; try (with_reducible rfl))
  try simp only [Act.put, List.getElem_toArray, List.getElem_cons_succ, List.getElem_cons_zero, List.setIfInBounds_toArray, List.set_cons_zero, List.set_cons_succ]
  refine wpAnyH_take (i := 7) (v := ?_) rfl (by kernel_rfl) (by kernel_rfl) (by kernel_rfl) (fun _ _ _ h => h) (Or.inl ⟨by kernel_rfl, ?_⟩) (by assumption) ?_
  rotate_left
  · (intro wx hSw; (try dsimp only at hSw); go_simp; try (with_reducible rfl))
  try simp only [Act.put, List.getElem_toArray, List.getElem_cons_succ, List.getElem_cons_zero, List.setIfInBounds_toArray, List.set_cons_zero, List.set_cons_succ]
  refine wpAnyH_done (by kernel_rfl) ?_ _
  go_wp2
  refine bodyPost_ret (v := .tuple #[.agg #[.int .i64 N, .slice A' l c'], .slice A3 k c3, .slice A4 k4 c4]) (by simp [results, Try.results37, go_sem, r0, r1, fr0, fr1]) rfl ?_
  have h0 := HU.out
  have h1 := S2.out
  have h2 : w3.heap.size ≤ w4.heap.size := s4.out
  have n5 : ∀ g, (Value.slice A3 k c3).ownBlock = some g → g ≠ w.heap.size := fun g hg e => by have := (Owns.lt O5.out g hg).1; omega
  have n6 : ∀ g, (Value.slice A4 k4 c4).ownBlock = some g → g ≠ w.heap.size := fun g hg e => by
    have h := (Owns.lt O6.out g hg).1
    have h' : w3.heap.size ≤ g := h
    omega
  refine ⟨N, A', l, c', L, A3, k, c3, V, A4, k4, c4, U, rfl, ⟨HL.out, hl200, HN.out, ((HD2.out.set_ (by show w.heap.size < b1; omega) _).set_ (by show w.heap.size < b1; omega) _).low (by omega)⟩, ⟨HK.out, hV, hc3, ?_⟩, ⟨HK4.out, by rw [HK4.out]; exact h0, hc4, ?_⟩, (HD1.out.set_ (Nat.le_refl _) _).set_ (Nat.le_refl _) _⟩
  · obtain ⟨A9, c9, e9, -, hi9, -, -⟩ := OwnN.shape (show OwnN _ (gb + 1) (.slice A3 k c3) V from Owns.setOther (Owns.setOther O5.out (p := ⟨w.heap.size, 0, none⟩) n5 _) (p := ⟨w.heap.size, 1, none⟩) n5 _)
    injection e9 with e91 e92 e93
    subst e91
    exact hi9
  · obtain ⟨A9, c9, e9, -, hi9, -, -⟩ := OwnN.shape (show OwnN _ w3.heap.size (.slice A4 k4 c4) U from Owns.setOther (Owns.setOther O6.out (p := ⟨w.heap.size, 0, none⟩) n6 _) (p := ⟨w.heap.size, 1, none⟩) n6 _)
    injection e9 with e91 e92 e93
    subst e91
    exact hi9

end Go.Proofs.Ytlddileiecnkjaa
