/-
  What is proved here: a graph, two nodes and two ends that are drawn by a code for a detour. No conditions beyond those that each theorem states.
-/
import Derived.Test.YtelgjfflhcmljaaQDR
import Derived.Test.YtelgjfflhcmljaaQPSQ
set_option linter.unusedSimpArgs false
set_option linter.unusedVariables false
namespace Go.Proofs.Ytelgjfflhcmljaa
open Go.RowKit

/-- A graph and four numbers that are drawn by a code. -/
def DrawnG4 (w : World) (e : Ending) (w' : World) : Prop :=
  ∃ (N : Int) (A' : Option Addr) (l c' : Nat) (L : List Arc3) (s t u v : Int), e = .returned (.tuple #[.agg #[.int .i64 N, .slice A' l c'], .int .i64 s, .int .i64 t, .int .i64 u, .int .i64 v]) ∧ Drawn w.heap.size w' N A' l c' L ∧ Bl w w'

/-- The state while ends are drawn. -/
structure DS (w : World) (gb b1 : Nat) (A : Option Addr) (n c : Nat) (N : Int) (A' : Option Addr) (l c' : Nat) (L : List Arc3) (A3 : Option Addr) (P : List Int) (wx : World) : Prop where
  res : Two wx w.heap.size (.int .i64 0) (.slice none 0 0)
  box : Two wx gb (.int .i64 N) (.slice A' l c')
  own : OwnA wx b1 (.slice A' l c') L
  pth : IntsAt wx wx.heap.size A3 P
  pnb : ∀ g, blockOf A3 = some g → w.heap.size + 1 < g
  rdr : RdAny wx (w.heap.size + 1) A n c
  bl : Bl w wx
  lo1 : w.heap.size + 1 < b1
  lo2 : w.heap.size + 1 < gb
theorem DS.rd_ {w : World} {gb b1 : Nat} {A : Option Addr} {n c : Nat} {N : Int} {A' : Option Addr} {l c' : Nat} {L : List Arc3} {A3 : Option Addr} {P : List Int} {wr w2 : World} (h : DS w gb b1 A n c N A' l c' L A3 P wr) (hr : RdAny w2 (w.heap.size + 1) A n c) (hg : wr.grownBy w2 (some (w.heap.size + 1))) : DS w gb b1 A n c N A' l c' L A3 P w2 := by
  have h1 := h.lo1; have h2 := h.lo2
  exact ⟨h.res.grown_ hg (fun e => by injection e with e; omega), h.box.grown_ hg (fun e => by injection e with e; omega), h.own.grown_ hg (fun g e => by injection e with e; omega), (h.pth.grown_ (Nat.le_refl _) hg (fun g hb _ e => by injection e with e; have := h.pnb g hb; omega)).more hg.size, h.pnb, hr, h.bl.grown_ hg (fun g e => by injection e with e; omega), h1, h2⟩
theorem DS.bl_ {w : World} {gb b1 : Nat} {A : Option Addr} {n c : Nat} {N : Int} {A' : Option Addr} {l c' : Nat} {L : List Arc3} {A3 : Option Addr} {P : List Int} {wr w2 : World} (h : DS w gb b1 A n c N A' l c' L A3 P wr) (hb : Bl wr w2) : DS w gb b1 A n c N A' l c' L A3 P w2 :=
  ⟨h.res.bl hb, h.box.bl hb, OwnA.bl h.own hb, h.pth.bl hb, h.pnb, h.rdr.bl hb, h.bl.trans_ hb, h.lo1, h.lo2⟩
theorem DS.fin {w : World} {gb b1 : Nat} {A : Option Addr} {n c : Nat} {N : Int} {A' : Option Addr} {l c' : Nat} {L : List Arc3} {A3 : Option Addr} {P : List Int} {wr : World} (h : DS w gb b1 A n c N A' l c' L A3 P wr) (hl : l = L.length) (h2 : l ≤ 200) (hN : In64 N) (s t u v : Int) (x y : Value) : DrawnG4 w (.returned (.tuple #[.agg #[.int .i64 N, .slice A' l c'], .int .i64 s, .int .i64 t, .int .i64 u, .int .i64 v])) ((wr.setCell ⟨w.heap.size, 0, none⟩ x).setCell ⟨w.heap.size, 1, none⟩ y) := by
  have h1 := h.lo1
  exact ⟨N, A', l, c', L, s, t, u, v, rfl, ⟨hl, h2, hN, ((h.own.set_ (by show w.heap.size < b1; omega) _).set_ (by show w.heap.size < b1; omega) _).low (by omega)⟩, (h.bl.set_ (Nat.le_refl _) _).set_ (Nat.le_refl _) _⟩

theorem DrawnG4.drew_ {w w' : World} {e : Ending} (h : DrawnG4 w e w') : DrawnG4 w e w'.drew := by
  obtain ⟨N, A', l, c', L, s, t, u, v, e, hd, hb⟩ := h
  exact ⟨N, A', l, c', L, s, t, u, v, e, hd.bl (Bl.drew_ (Bl.refl _)), hb.drew_⟩

set_option maxRecDepth 100000 in
set_option maxHeartbeats 3000000 in
theorem drawDetour_any (A : Option Addr) (n c : Nat) (w : World) (hn : n ≤ 1099511627776) (H : BytesAt w A n) :
    Calls Try.prog 59 #[.slice A n c] w (DrawnG4 w) := by
  have K := Lib.hid H
  clear H
  go_enter Try.func59, Try.ntmps59
  go_wp2_with fail
  refine (open_any A n c _ (K.out.bl (by repeat' (first | exact Bl.refl _ | with_reducible assumption | with_reducible refine Bl.drew_ ?_ | with_reducible refine Bl.drewN_ ?_ _ | with_reducible refine Bl.alloc_ ?_ _ | with_reducible refine Bl.trans_ ?_ (by assumption) | with_reducible refine Bl.trans_ ?_ (And.left (by assumption)))))).mono ?_
  rintro e w1 ⟨rfl, hr, hb, hlt⟩
  have R1 := Lib.hid (show RdAny w1 (w.heap.size + 1) A n c from by rw [World.size_alloc] at hr; exact hr)
  have B1 := Lib.hid hb
  have s1 := hb.size
  simp only [World.size_alloc] at s1 hlt
  clear hr hb
  go_wp2_with fail
  refine (drawDistOf_any A n c _ hn (K.out.bl ((Bl.alloc_ (Bl.refl w) _).trans_ B1.out))).mono ?_
  rintro e w2 ⟨N, A', l, c', L, s, t, rfl, hd, hs, ht, hb2⟩
  obtain ⟨ha, hlc⟩ := hd.arcs
  have HL := Lib.hid hd.1
  have hl200 := hd.2.1
  have HN := Lib.hid hd.2.2.1
  have O2 := Lib.hid hd.2.2.2
  have B2 := Lib.hid (B1.out.trans_ hb2)
  have R2 := Lib.hid (R1.out.bl hb2)
  have s2 := hb2.size
  have HA := Lib.hid (ha.bl (Bl.alloc_ (Bl.refl w2) (.cells #[.int .i64 N, .slice A' l c'] 29)))
  clear hd hs ht hb2 ha
  go_wp2_with fail
  refine (specPathOf_any N s t A' l c' L HL.out _ (by omega) HA.out).mono ?_
  rintro e w3 ⟨v3, rfl, hv3, hb3⟩
  obtain ⟨A3, c3, rfl, -, hi3, -, hl3⟩ := OwnN.shape hv3
  obtain ⟨P, hP⟩ : ∃ P, P = pathL N L s t := ⟨_, rfl⟩
  have hp20 : P.length ≤ 1048576 := by rw [hP]; exact pathL_len N L s t
  rw [← hP] at hi3 ⊢
  have S3 := Lib.hid (show DS w w2.heap.size w1.heap.size A n c N A' l c' L A3 P w3 from by
    have hbb := (Bl.alloc_ (Bl.refl w2) (.cells #[.int .i64 N, .slice A' l c'] 29)).trans_ hb3
    exact ⟨((Two.new w _ _).bl B2.out).bl hbb, (Two.new w2 _ _).bl hb3, OwnA.bl O2.out hbb, hi3, fun g hg => by have := (hl3 g hg).1; simp at this; omega, R2.out.bl hbb, ((Bl.alloc_ (Bl.refl w) _).trans_ B2.out).trans_ hbb, by omega, by omega⟩)
  obtain ⟨gb, hgb⟩ : ∃ gb, gb = w2.heap.size := ⟨_, rfl⟩
  obtain ⟨b1, hb1⟩ : ∃ b1, b1 = w1.heap.size := ⟨_, rfl⟩
  rw [← hgb, ← hb1] at S3
  rw [← hgb]
  have nb : gb ≠ w.heap.size := by omega
  have nb' : w.heap.size ≠ gb := by omega
  obtain ⟨p, hp⟩ : ∃ p, p = P.length := ⟨_, rfl⟩
  have HP := Lib.hid hp
  rw [← hp] at hp20 ⊢
  generalize decide (0 < p) = bp
  clear hv3 hi3 hb3 hl3 hP hgb hb1 s1 s2 hlt O2 R2 B2 R1 B1 HA hp
  by_cases hp1 : 1 < p
  · have d1 : decide ((1 : Int) < (p : Int)) = true := by rw [decide_eq_true_eq]; omega
    go_wp2_with fail
    refine (once_any 3 (w.heap.size + 1) A n c _ hn (by omega) (by omega) S3.out.rdr).mono ?_
    rintro e w4 ⟨b, rfl, hr, hg⟩
    have S4 := Lib.hid (S3.out.rd_ hr hg)
    clear hr hg S3
    cases b with
    | false =>
      have hpw : IntKind.i64.wrap ((p : Int) - 1) = (p : Int) - 1 := IntWalk.i64_in _ (by omega)
      go_wp2_with fail
      refine (below_any ((p : Int) - 1) (w.heap.size + 1) A n c _ hn (by omega) S4.out.rdr).mono ?_
      rintro e w5 ⟨d, ⟨hd0, hd1⟩, rfl, hr, hg⟩
      have S5 := Lib.hid (S4.out.rd_ hr hg)
      have hdk : d < (p : Int) - 1 := by omega
      obtain ⟨j, rfl⟩ : ∃ j : Nat, d = j := ⟨d.toNat, by omega⟩
      clear hr hg S4 hd1 hpw d1
      have pnb := S5.out.pnb
      obtain ⟨y0, y1, -, -⟩ := S5.out.box.facts
      obtain ⟨r0, r1, fr0, fr1⟩ := S5.out.res.facts
      obtain ⟨g3, o3, rfl, hg3, hc3⟩ := S5.out.pth.cell (by have := HP.out; omega)
      have p1 := hc3 j (by have := HP.out; omega)
      have p2 := hc3 (j + 1) (by have := HP.out; omega)
      have hjp : j + 1 < P.length := by have := HP.out; omega
      generalize P[j]'(by omega) = u at p1
      generalize P[j + 1]'hjp = v at p2
      have nc : g3 ≠ w.heap.size := by have := pnb g3 rfl; omega
      have nc' : w.heap.size ≠ g3 := by omega
      have i0 : (0 : Int) ≤ (j : Int) := by omega
      have i1 : (j : Int) < (p : Int) := by omega
      have i2 : (0 : Int) ≤ (j : Int) + 1 := by omega
      have i3 : (j : Int) + 1 < (p : Int) := by omega
      have iw : IntKind.i64.wrap ((j : Int) + 1) = (j : Int) + 1 := IntWalk.i64_in _ (by omega)
      have it : ((j : Int) + 1).toNat = j + 1 := by omega
      clear hc3 hg3 hd0 hdk pnb
      go_wp2_with fail
      refine wp_region_held_drew (S := fun wx => wx.cell? ⟨gb, 0, none⟩ = some (.int .i64 N) ∧ wx.cell? ⟨gb, 1, none⟩ = some (.slice A' l c') ∧ wx.cell? ⟨g3, o3 + j, none⟩ = some (.int .i64 u) ∧ wx.cell? ⟨g3, o3 + (j + 1), none⟩ = some (.int .i64 v)) (by kernel_rfl) ?_ (fun hHeld => ?_)
      · (first | exact ⟨y0, y1, p1, p2⟩ | (refine ⟨?_, ?_, ?_, ?_⟩ <;> (simp [go_sem, nb, nb', nc, nc', *]; done)))
      refine wpAnyH_take (i := 0) (v := ?_) rfl (by kernel_rfl) (by kernel_rfl) (by kernel_rfl) (fun _ _ _ h => h) (Or.inl ⟨by kernel_rfl, ?_⟩) (by assumption) ?_
      rotate_left
      · (intro wx hSw; (try dsimp only at hSw); go_simp; try (with_reducible rfl))
      try simp only [Act.put, List.getElem_toArray, List.getElem_cons_succ, List.getElem_cons_zero, List.setIfInBounds_toArray, List.set_cons_zero, List.set_cons_succ]
      refine wpAnyH_take (i := 1) (v := ?_) rfl (by kernel_rfl) (by kernel_rfl) (by kernel_rfl) (fun _ _ _ h => h) (Or.inl ⟨by kernel_rfl, ?_⟩) (by assumption) ?_
      rotate_left
      · (intro wx hSw; (try dsimp only at hSw); go_simp; try (with_reducible rfl))
      try simp only [Act.put, List.getElem_toArray, List.getElem_cons_succ, List.getElem_cons_zero, List.setIfInBounds_toArray, List.set_cons_zero, List.set_cons_succ]
      refine wpAnyH_take (i := 2) (v := ?_) rfl (by kernel_rfl) (by kernel_rfl) (by kernel_rfl) (fun _ _ _ h => h) (Or.inl ⟨by kernel_rfl, ?_⟩) (by assumption) ?_
      rotate_left
      · (intro wx hSw; (try dsimp only at hSw); go_simp; try (with_reducible rfl))
      try simp only [Act.put, List.getElem_toArray, List.getElem_cons_succ, List.getElem_cons_zero, List.setIfInBounds_toArray, List.set_cons_zero, List.set_cons_succ]
      refine wpAnyH_take (i := 3) (v := ?_) rfl (by kernel_rfl) (by kernel_rfl) (by kernel_rfl) (fun _ _ _ h => h) (Or.inl ⟨by kernel_rfl, ?_⟩) (by assumption) ?_
      rotate_left
      · (intro wx hSw; (try dsimp only at hSw); go_simp; try (with_reducible rfl))
      try simp only [Act.put, List.getElem_toArray, List.getElem_cons_succ, List.getElem_cons_zero, List.setIfInBounds_toArray, List.set_cons_zero, List.set_cons_succ]
      refine wpAnyH_take (i := 4) (v := ?_) rfl (by kernel_rfl) (by kernel_rfl) (by kernel_rfl) (fun _ _ _ h => h) (Or.inl ⟨by kernel_rfl, ?_⟩) (by assumption) ?_
      rotate_left
      · (intro wx hSw; (try dsimp only at hSw); go_simp; try (with_reducible rfl))
      try simp only [Act.put, List.getElem_toArray, List.getElem_cons_succ, List.getElem_cons_zero, List.setIfInBounds_toArray, List.set_cons_zero, List.set_cons_succ]
      refine wpAnyH_take (i := 5) (v := ?_) rfl (by kernel_rfl) (by kernel_rfl) (by kernel_rfl) (fun _ _ _ h => h) (Or.inl ⟨by kernel_rfl, ?_⟩) (by assumption) ?_
      rotate_left
      · (intro wx hSw; (try dsimp only at hSw); go_simp; try (with_reducible rfl))
      try simp only [Act.put, List.getElem_toArray, List.getElem_cons_succ, List.getElem_cons_zero, List.setIfInBounds_toArray, List.set_cons_zero, List.set_cons_succ]
      refine wpAnyH_take (i := 6) (v := ?_) rfl (by kernel_rfl) (by kernel_rfl) (by kernel_rfl) (fun _ _ _ h => h) (Or.inl ⟨by kernel_rfl, ?_⟩) (by assumption) ?_
      rotate_left
      · (intro wx hSw; (try dsimp only at hSw); go_simp; try (with_reducible rfl))
      try simp only [Act.put, List.getElem_toArray, List.getElem_cons_succ, List.getElem_cons_zero, List.setIfInBounds_toArray, List.set_cons_zero, List.set_cons_succ]
      refine wpAnyH_take (i := 7) (v := ?_) rfl (by kernel_rfl) (by kernel_rfl) (by kernel_rfl) (fun _ _ _ h => h) (Or.inl ⟨by kernel_rfl, ?_⟩) (by assumption) ?_
      rotate_left
      · (intro wx hSw; (try dsimp only at hSw); go_simp; try (with_reducible rfl))
      try simp only [Act.put, List.getElem_toArray, List.getElem_cons_succ, List.getElem_cons_zero, List.setIfInBounds_toArray, List.set_cons_zero, List.set_cons_succ]
      refine wpAnyH_take (i := 8) (v := ?_) rfl (by kernel_rfl) (by kernel_rfl) (by kernel_rfl) (fun _ _ _ h => h) (Or.inl ⟨by kernel_rfl, ?_⟩) (by assumption) ?_
      rotate_left
      · (intro wx hSw; (try dsimp only at hSw); go_simp; try (with_reducible rfl))
      try simp only [Act.put, List.getElem_toArray, List.getElem_cons_succ, List.getElem_cons_zero, List.setIfInBounds_toArray, List.set_cons_zero, List.set_cons_succ]
      refine wpAnyH_take (i := 9) (v := ?_) rfl (by kernel_rfl) (by kernel_rfl) (by kernel_rfl) (fun _ _ _ h => h) (Or.inl ⟨by kernel_rfl, ?_⟩) (by assumption) ?_
      rotate_left
      · (intro wx hSw; (try dsimp only at hSw); go_simp; try (with_reducible rfl))
      try simp only [Act.put, List.getElem_toArray, List.getElem_cons_succ, List.getElem_cons_zero, List.setIfInBounds_toArray, List.set_cons_zero, List.set_cons_succ]
      refine wpAnyH_take (i := 10) (v := ?_) rfl (by kernel_rfl) (by kernel_rfl) (by kernel_rfl) (fun _ _ _ h => h) (Or.inl ⟨by kernel_rfl, ?_⟩) (by assumption) ?_
      rotate_left
      · (intro wx hSw; (try dsimp only at hSw); go_simp; try (with_reducible rfl))
      try simp only [Act.put, List.getElem_toArray, List.getElem_cons_succ, List.getElem_cons_zero, List.setIfInBounds_toArray, List.set_cons_zero, List.set_cons_succ]
      refine wpAnyH_take (i := 11) (v := ?_) rfl (by kernel_rfl) (by kernel_rfl) (by kernel_rfl) (fun _ _ _ h => h) (Or.inl ⟨by kernel_rfl, ?_⟩) (by assumption) ?_
      rotate_left
      · (intro wx hSw; (try dsimp only at hSw); go_simp; try (with_reducible rfl))
      try simp only [Act.put, List.getElem_toArray, List.getElem_cons_succ, List.getElem_cons_zero, List.setIfInBounds_toArray, List.set_cons_zero, List.set_cons_succ]
      refine wpAnyH_ready (rs := [12]) (by kernel_rfl) (by simp) ?_
      refine AllReadyH.cons rfl (fun K hK => ?_) AllReadyH.nil
      go_simp
      refine hK.out _ _ ?_ (fun hHeld => ?_)
      · (first | exact ⟨y0, y1, p1, p2⟩ | (refine ⟨?_, ?_, ?_, ?_⟩ <;> (simp [go_sem, nb, nb', nc, nc', *]; done)))
      clear hK K
      try simp only [Act.put, List.getElem_toArray, List.getElem_cons_succ, List.getElem_cons_zero, List.setIfInBounds_toArray, List.set_cons_zero, List.set_cons_succ]
      refine wpAnyH_take (i := 13) (v := ?_) rfl (by kernel_rfl) (by kernel_rfl) (by kernel_rfl) (fun _ _ _ h => h) (Or.inl ⟨by kernel_rfl, ?_⟩) (by assumption) ?_
      rotate_left
      · (intro wx hSw; (try dsimp only at hSw); go_simp; try (with_reducible rfl))
      try simp only [Act.put, List.getElem_toArray, List.getElem_cons_succ, List.getElem_cons_zero, List.setIfInBounds_toArray, List.set_cons_zero, List.set_cons_succ]
      refine wpAnyH_take (i := 14) (v := ?_) rfl (by kernel_rfl) (by kernel_rfl) (by kernel_rfl) (fun _ _ _ h => h) (Or.inl ⟨by kernel_rfl, ?_⟩) (by assumption) ?_
      rotate_left
      · (intro wx hSw; (try dsimp only at hSw); go_simp; try (with_reducible rfl))
      try simp only [Act.put, List.getElem_toArray, List.getElem_cons_succ, List.getElem_cons_zero, List.setIfInBounds_toArray, List.set_cons_zero, List.set_cons_succ]
      refine wpAnyH_take (i := 15) (v := ?_) rfl (by kernel_rfl) (by kernel_rfl) (by kernel_rfl) (fun _ _ _ h => h) (Or.inl ⟨by kernel_rfl, ?_⟩) (by assumption) ?_
      rotate_left
      · (intro wx hSw; (try dsimp only at hSw); go_simp; try (with_reducible rfl))
      try simp only [Act.put, List.getElem_toArray, List.getElem_cons_succ, List.getElem_cons_zero, List.setIfInBounds_toArray, List.set_cons_zero, List.set_cons_succ]
      refine wpAnyH_take (i := 16) (v := ?_) rfl (by kernel_rfl) (by kernel_rfl) (by kernel_rfl) (fun _ _ _ h => h) (Or.inl ⟨by kernel_rfl, ?_⟩) (by assumption) ?_
      rotate_left
      · (intro wx hSw; (try dsimp only at hSw); go_simp; try (with_reducible rfl))
      try simp only [Act.put, List.getElem_toArray, List.getElem_cons_succ, List.getElem_cons_zero, List.setIfInBounds_toArray, List.set_cons_zero, List.set_cons_succ]
      refine wpAnyH_done (by kernel_rfl) ?_ _
      go_wp2
      refine bodyPost_ret (v := .tuple #[.agg #[.int .i64 N, .slice A' l c'], .int .i64 s, .int .i64 t, .int .i64 u, .int .i64 v]) (by simp [results, Try.results59, go_sem, r0, r1, fr0, fr1]) rfl ?_
      exact (S5.out.fin HL.out hl200 HN.out s t u v _ _).drew_
    | true =>
      obtain ⟨r0, r1, fr0, fr1⟩ := S4.out.res.facts
      obtain ⟨y0, y1, -, -⟩ := S4.out.box.facts
      go_wp2_with fail
      refine wp_region_held_drew (S := fun wx => wx.cell? ⟨gb, 0, none⟩ = some (.int .i64 N) ∧ wx.cell? ⟨gb, 1, none⟩ = some (.slice A' l c')) (by kernel_rfl) ?_ (fun hHeld => ?_)
      · (first | (have z := S7.out.box.facts; exact ⟨z.1, z.2.1⟩) | (have z := S6.out.box.facts; exact ⟨z.1, z.2.1⟩) | (have z := S4.out.box.facts; exact ⟨z.1, z.2.1⟩) | (refine ⟨?_, ?_⟩ <;> (simp [go_sem, nb, nb', *]; done)))
      refine wpAnyH_take (i := 0) (v := ?_) rfl (by kernel_rfl) (by kernel_rfl) (by kernel_rfl) (fun _ _ _ h => h) (Or.inl ⟨by kernel_rfl, ?_⟩) (by assumption) ?_
      rotate_left
      · (intro wx hSw; (try dsimp only at hSw); go_simp; try (with_reducible rfl))
      try simp only [Act.put, List.getElem_toArray, List.getElem_cons_succ, List.getElem_cons_zero, List.setIfInBounds_toArray, List.set_cons_zero, List.set_cons_succ]
      refine wpAnyH_take (i := 1) (v := ?_) rfl (by kernel_rfl) (by kernel_rfl) (by kernel_rfl) (fun _ _ _ h => h) (Or.inl ⟨by kernel_rfl, ?_⟩) (by assumption) ?_
      rotate_left
      · (intro wx hSw; (try dsimp only at hSw); go_simp; try (with_reducible rfl))
      try simp only [Act.put, List.getElem_toArray, List.getElem_cons_succ, List.getElem_cons_zero, List.setIfInBounds_toArray, List.set_cons_zero, List.set_cons_succ]
      refine wpAnyH_take (i := 2) (v := ?_) rfl (by kernel_rfl) (by kernel_rfl) (by kernel_rfl) (fun _ _ _ h => h) (Or.inl ⟨by kernel_rfl, ?_⟩) (by assumption) ?_
      rotate_left
      · (intro wx hSw; (try dsimp only at hSw); go_simp; try (with_reducible rfl))
      try simp only [Act.put, List.getElem_toArray, List.getElem_cons_succ, List.getElem_cons_zero, List.setIfInBounds_toArray, List.set_cons_zero, List.set_cons_succ]
      refine wpAnyH_take (i := 3) (v := ?_) rfl (by kernel_rfl) (by kernel_rfl) (by kernel_rfl) (fun _ _ _ h => h) (Or.inl ⟨by kernel_rfl, ?_⟩) (by assumption) ?_
      rotate_left
      · (intro wx hSw; (try dsimp only at hSw); go_simp; try (with_reducible rfl))
      try simp only [Act.put, List.getElem_toArray, List.getElem_cons_succ, List.getElem_cons_zero, List.setIfInBounds_toArray, List.set_cons_zero, List.set_cons_succ]
      refine wpAnyH_take (i := 5) (v := ?_) rfl (by kernel_rfl) (by kernel_rfl) (by kernel_rfl) (fun _ _ _ h => h) (Or.inl ⟨by kernel_rfl, ?_⟩) (by assumption) ?_
      rotate_left
      · (intro wx hSw; (try dsimp only at hSw); go_simp; try (with_reducible rfl))
      try simp only [Act.put, List.getElem_toArray, List.getElem_cons_succ, List.getElem_cons_zero, List.setIfInBounds_toArray, List.set_cons_zero, List.set_cons_succ]
      refine wpAnyH_ready (rs := [4]) (by kernel_rfl) (by simp) ?_
      refine AllReadyH.cons rfl (fun K hK => ?_) AllReadyH.nil
      go_simp
      (go_at_call 118; refine (off_any 0 5 (w.heap.size + 1) A n c _ hn (by omega) (by omega) (by omega) (by omega) (S4.out.rdr.bl (by repeat' (first | exact Bl.refl _ | with_reducible assumption | with_reducible refine Bl.drew_ ?_ | with_reducible refine Bl.drewN_ ?_ _ | with_reducible refine Bl.alloc_ ?_ _ | with_reducible refine Bl.trans_ ?_ (by assumption) | with_reducible refine Bl.trans_ ?_ (And.left (by assumption)))))).mono ?_; rintro e w6 ⟨x6, hx6, rfl, hr, hg⟩; have S6 := Lib.hid ((S4.out.bl_ (by repeat' (first | exact Bl.refl _ | with_reducible assumption | with_reducible refine Bl.drew_ ?_ | with_reducible refine Bl.drewN_ ?_ _ | with_reducible refine Bl.alloc_ ?_ _ | with_reducible refine Bl.trans_ ?_ (by assumption) | with_reducible refine Bl.trans_ ?_ (And.left (by assumption))))).rd_ hr hg); clear hr hg; obtain ⟨r0, r1, fr0, fr1⟩ := S6.out.res.facts; obtain ⟨y0, y1, -, -⟩ := S6.out.box.facts)
      try (go_wp2_with fail)
      refine hK.out _ _ ?_ (fun hHeld => ?_)
      · (first | (have z := S7.out.box.facts; exact ⟨z.1, z.2.1⟩) | (have z := S6.out.box.facts; exact ⟨z.1, z.2.1⟩) | (have z := S4.out.box.facts; exact ⟨z.1, z.2.1⟩) | (refine ⟨?_, ?_⟩ <;> (simp [go_sem, nb, nb', *]; done)))
      clear hK K
      try simp only [Act.put, List.getElem_toArray, List.getElem_cons_succ, List.getElem_cons_zero, List.setIfInBounds_toArray, List.set_cons_zero, List.set_cons_succ]
      refine wpAnyH_ready (rs := [6]) (by kernel_rfl) (by simp) ?_
      refine AllReadyH.cons rfl (fun K hK => ?_) AllReadyH.nil
      go_simp
      (go_at_call 118; refine (off_any 0 5 (w.heap.size + 1) A n c _ hn (by omega) (by omega) (by omega) (by omega) (S6.out.rdr.bl (by repeat' (first | exact Bl.refl _ | with_reducible assumption | with_reducible refine Bl.drew_ ?_ | with_reducible refine Bl.drewN_ ?_ _ | with_reducible refine Bl.alloc_ ?_ _ | with_reducible refine Bl.trans_ ?_ (by assumption) | with_reducible refine Bl.trans_ ?_ (And.left (by assumption)))))).mono ?_; rintro e w7 ⟨x7, hx7, rfl, hr, hg⟩; have S7 := Lib.hid ((S6.out.bl_ (by repeat' (first | exact Bl.refl _ | with_reducible assumption | with_reducible refine Bl.drew_ ?_ | with_reducible refine Bl.drewN_ ?_ _ | with_reducible refine Bl.alloc_ ?_ _ | with_reducible refine Bl.trans_ ?_ (by assumption) | with_reducible refine Bl.trans_ ?_ (And.left (by assumption))))).rd_ hr hg); clear hr hg; obtain ⟨r0, r1, fr0, fr1⟩ := S7.out.res.facts; obtain ⟨y0, y1, -, -⟩ := S7.out.box.facts)
      try (go_wp2_with fail)
      refine hK.out _ _ ?_ (fun hHeld => ?_)
      · (first | (have z := S7.out.box.facts; exact ⟨z.1, z.2.1⟩) | (have z := S6.out.box.facts; exact ⟨z.1, z.2.1⟩) | (have z := S4.out.box.facts; exact ⟨z.1, z.2.1⟩) | (refine ⟨?_, ?_⟩ <;> (simp [go_sem, nb, nb', *]; done)))
      clear hK K
      try simp only [Act.put, List.getElem_toArray, List.getElem_cons_succ, List.getElem_cons_zero, List.setIfInBounds_toArray, List.set_cons_zero, List.set_cons_succ]
      refine wpAnyH_ready (rs := [7]) (by kernel_rfl) (by simp) ?_
      refine AllReadyH.cons rfl (fun K hK => ?_) AllReadyH.nil
      go_simp
      refine hK.out _ _ ?_ (fun hHeld => ?_)
      · (first | (have z := S7.out.box.facts; exact ⟨z.1, z.2.1⟩) | (have z := S6.out.box.facts; exact ⟨z.1, z.2.1⟩) | (have z := S4.out.box.facts; exact ⟨z.1, z.2.1⟩) | (refine ⟨?_, ?_⟩ <;> (simp [go_sem, nb, nb', *]; done)))
      clear hK K
      try simp only [Act.put, List.getElem_toArray, List.getElem_cons_succ, List.getElem_cons_zero, List.setIfInBounds_toArray, List.set_cons_zero, List.set_cons_succ]
      refine wpAnyH_take (i := 8) (v := ?_) rfl (by kernel_rfl) (by kernel_rfl) (by kernel_rfl) (fun _ _ _ h => h) (Or.inl ⟨by kernel_rfl, ?_⟩) (by assumption) ?_
      rotate_left
      · (intro wx hSw; (try dsimp only at hSw); go_simp; try (with_reducible rfl))
      try simp only [Act.put, List.getElem_toArray, List.getElem_cons_succ, List.getElem_cons_zero, List.setIfInBounds_toArray, List.set_cons_zero, List.set_cons_succ]
      refine wpAnyH_take (i := 9) (v := ?_) rfl (by kernel_rfl) (by kernel_rfl) (by kernel_rfl) (fun _ _ _ h => h) (Or.inl ⟨by kernel_rfl, ?_⟩) (by assumption) ?_
      rotate_left
      · (intro wx hSw; (try dsimp only at hSw); go_simp; try (with_reducible rfl))
      try simp only [Act.put, List.getElem_toArray, List.getElem_cons_succ, List.getElem_cons_zero, List.setIfInBounds_toArray, List.set_cons_zero, List.set_cons_succ]
      refine wpAnyH_take (i := 10) (v := ?_) rfl (by kernel_rfl) (by kernel_rfl) (by kernel_rfl) (fun _ _ _ h => h) (Or.inl ⟨by kernel_rfl, ?_⟩) (by assumption) ?_
      rotate_left
      · (intro wx hSw; (try dsimp only at hSw); go_simp; try (with_reducible rfl))
      try simp only [Act.put, List.getElem_toArray, List.getElem_cons_succ, List.getElem_cons_zero, List.setIfInBounds_toArray, List.set_cons_zero, List.set_cons_succ]
      refine wpAnyH_take (i := 11) (v := ?_) rfl (by kernel_rfl) (by kernel_rfl) (by kernel_rfl) (fun _ _ _ h => h) (Or.inl ⟨by kernel_rfl, ?_⟩) (by assumption) ?_
      rotate_left
      · (intro wx hSw; (try dsimp only at hSw); go_simp; try (with_reducible rfl))
      try simp only [Act.put, List.getElem_toArray, List.getElem_cons_succ, List.getElem_cons_zero, List.setIfInBounds_toArray, List.set_cons_zero, List.set_cons_succ]
      refine wpAnyH_done (by kernel_rfl) ?_ _
      go_wp2
      refine bodyPost_ret (v := .tuple #[.agg #[.int .i64 N, .slice A' l c'], .int .i64 s, .int .i64 t, .int .i64 x6, .int .i64 x7]) (by simp [results, Try.results59, go_sem, r0, r1, fr0, fr1]) rfl ?_
      exact S7.out.fin HL.out hl200 HN.out s t x6 x7 _ _
  · have d1 : decide ((1 : Int) < (p : Int)) = false := by rw [decide_eq_false_iff_not]; omega
    obtain ⟨r0, r1, fr0, fr1⟩ := S3.out.res.facts
    obtain ⟨y0, y1, -, -⟩ := S3.out.box.facts
    go_wp2_with fail
    refine wp_region_held_drew (S := fun wx => wx.cell? ⟨gb, 0, none⟩ = some (.int .i64 N) ∧ wx.cell? ⟨gb, 1, none⟩ = some (.slice A' l c')) (by kernel_rfl) ?_ (fun hHeld => ?_)
    · (first | (have z := S7.out.box.facts; exact ⟨z.1, z.2.1⟩) | (have z := S6.out.box.facts; exact ⟨z.1, z.2.1⟩) | (have z := S3.out.box.facts; exact ⟨z.1, z.2.1⟩) | (refine ⟨?_, ?_⟩ <;> (simp [go_sem, nb, nb', *]; done)))
    refine wpAnyH_take (i := 0) (v := ?_) rfl (by kernel_rfl) (by kernel_rfl) (by kernel_rfl) (fun _ _ _ h => h) (Or.inl ⟨by kernel_rfl, ?_⟩) (by assumption) ?_
    rotate_left
    · (intro wx hSw; (try dsimp only at hSw); go_simp; try (with_reducible rfl))
    try simp only [Act.put, List.getElem_toArray, List.getElem_cons_succ, List.getElem_cons_zero, List.setIfInBounds_toArray, List.set_cons_zero, List.set_cons_succ]
    refine wpAnyH_take (i := 1) (v := ?_) rfl (by kernel_rfl) (by kernel_rfl) (by kernel_rfl) (fun _ _ _ h => h) (Or.inl ⟨by kernel_rfl, ?_⟩) (by assumption) ?_
    rotate_left
    · (intro wx hSw; (try dsimp only at hSw); go_simp; try (with_reducible rfl))
    try simp only [Act.put, List.getElem_toArray, List.getElem_cons_succ, List.getElem_cons_zero, List.setIfInBounds_toArray, List.set_cons_zero, List.set_cons_succ]
    refine wpAnyH_take (i := 2) (v := ?_) rfl (by kernel_rfl) (by kernel_rfl) (by kernel_rfl) (fun _ _ _ h => h) (Or.inl ⟨by kernel_rfl, ?_⟩) (by assumption) ?_
    rotate_left
    · (intro wx hSw; (try dsimp only at hSw); go_simp; try (with_reducible rfl))
    try simp only [Act.put, List.getElem_toArray, List.getElem_cons_succ, List.getElem_cons_zero, List.setIfInBounds_toArray, List.set_cons_zero, List.set_cons_succ]
    refine wpAnyH_take (i := 3) (v := ?_) rfl (by kernel_rfl) (by kernel_rfl) (by kernel_rfl) (fun _ _ _ h => h) (Or.inl ⟨by kernel_rfl, ?_⟩) (by assumption) ?_
    rotate_left
    · (intro wx hSw; (try dsimp only at hSw); go_simp; try (with_reducible rfl))
    try simp only [Act.put, List.getElem_toArray, List.getElem_cons_succ, List.getElem_cons_zero, List.setIfInBounds_toArray, List.set_cons_zero, List.set_cons_succ]
    refine wpAnyH_take (i := 5) (v := ?_) rfl (by kernel_rfl) (by kernel_rfl) (by kernel_rfl) (fun _ _ _ h => h) (Or.inl ⟨by kernel_rfl, ?_⟩) (by assumption) ?_
    rotate_left
    · (intro wx hSw; (try dsimp only at hSw); go_simp; try (with_reducible rfl))
    try simp only [Act.put, List.getElem_toArray, List.getElem_cons_succ, List.getElem_cons_zero, List.setIfInBounds_toArray, List.set_cons_zero, List.set_cons_succ]
    refine wpAnyH_ready (rs := [4]) (by kernel_rfl) (by simp) ?_
    refine AllReadyH.cons rfl (fun K hK => ?_) AllReadyH.nil
    go_simp
    (go_at_call 118; refine (off_any 0 5 (w.heap.size + 1) A n c _ hn (by omega) (by omega) (by omega) (by omega) (S3.out.rdr.bl (by repeat' (first | exact Bl.refl _ | with_reducible assumption | with_reducible refine Bl.drew_ ?_ | with_reducible refine Bl.drewN_ ?_ _ | with_reducible refine Bl.alloc_ ?_ _ | with_reducible refine Bl.trans_ ?_ (by assumption) | with_reducible refine Bl.trans_ ?_ (And.left (by assumption)))))).mono ?_; rintro e w6 ⟨x6, hx6, rfl, hr, hg⟩; have S6 := Lib.hid ((S3.out.bl_ (by repeat' (first | exact Bl.refl _ | with_reducible assumption | with_reducible refine Bl.drew_ ?_ | with_reducible refine Bl.drewN_ ?_ _ | with_reducible refine Bl.alloc_ ?_ _ | with_reducible refine Bl.trans_ ?_ (by assumption) | with_reducible refine Bl.trans_ ?_ (And.left (by assumption))))).rd_ hr hg); clear hr hg; obtain ⟨r0, r1, fr0, fr1⟩ := S6.out.res.facts; obtain ⟨y0, y1, -, -⟩ := S6.out.box.facts)
    try (go_wp2_with fail)
    refine hK.out _ _ ?_ (fun hHeld => ?_)
    · (first | (have z := S7.out.box.facts; exact ⟨z.1, z.2.1⟩) | (have z := S6.out.box.facts; exact ⟨z.1, z.2.1⟩) | (have z := S3.out.box.facts; exact ⟨z.1, z.2.1⟩) | (refine ⟨?_, ?_⟩ <;> (simp [go_sem, nb, nb', *]; done)))
    clear hK K
    try simp only [Act.put, List.getElem_toArray, List.getElem_cons_succ, List.getElem_cons_zero, List.setIfInBounds_toArray, List.set_cons_zero, List.set_cons_succ]
    refine wpAnyH_ready (rs := [6]) (by kernel_rfl) (by simp) ?_
    refine AllReadyH.cons rfl (fun K hK => ?_) AllReadyH.nil
    go_simp
    (go_at_call 118; refine (off_any 0 5 (w.heap.size + 1) A n c _ hn (by omega) (by omega) (by omega) (by omega) (S6.out.rdr.bl (by repeat' (first | exact Bl.refl _ | with_reducible assumption | with_reducible refine Bl.drew_ ?_ | with_reducible refine Bl.drewN_ ?_ _ | with_reducible refine Bl.alloc_ ?_ _ | with_reducible refine Bl.trans_ ?_ (by assumption) | with_reducible refine Bl.trans_ ?_ (And.left (by assumption)))))).mono ?_; rintro e w7 ⟨x7, hx7, rfl, hr, hg⟩; have S7 := Lib.hid ((S6.out.bl_ (by repeat' (first | exact Bl.refl _ | with_reducible assumption | with_reducible refine Bl.drew_ ?_ | with_reducible refine Bl.drewN_ ?_ _ | with_reducible refine Bl.alloc_ ?_ _ | with_reducible refine Bl.trans_ ?_ (by assumption) | with_reducible refine Bl.trans_ ?_ (And.left (by assumption))))).rd_ hr hg); clear hr hg; obtain ⟨r0, r1, fr0, fr1⟩ := S7.out.res.facts; obtain ⟨y0, y1, -, -⟩ := S7.out.box.facts)
    try (go_wp2_with fail)
    refine hK.out _ _ ?_ (fun hHeld => ?_)
    · (first | (have z := S7.out.box.facts; exact ⟨z.1, z.2.1⟩) | (have z := S6.out.box.facts; exact ⟨z.1, z.2.1⟩) | (have z := S3.out.box.facts; exact ⟨z.1, z.2.1⟩) | (refine ⟨?_, ?_⟩ <;> (simp [go_sem, nb, nb', *]; done)))
    clear hK K
    try simp only [Act.put, List.getElem_toArray, List.getElem_cons_succ, List.getElem_cons_zero, List.setIfInBounds_toArray, List.set_cons_zero, List.set_cons_succ]
    refine wpAnyH_ready (rs := [7]) (by kernel_rfl) (by simp) ?_
    refine AllReadyH.cons rfl (fun K hK => ?_) AllReadyH.nil
    go_simp
    refine hK.out _ _ ?_ (fun hHeld => ?_)
    · (first | (have z := S7.out.box.facts; exact ⟨z.1, z.2.1⟩) | (have z := S6.out.box.facts; exact ⟨z.1, z.2.1⟩) | (have z := S3.out.box.facts; exact ⟨z.1, z.2.1⟩) | (refine ⟨?_, ?_⟩ <;> (simp [go_sem, nb, nb', *]; done)))
    clear hK K
    try simp only [Act.put, List.getElem_toArray, List.getElem_cons_succ, List.getElem_cons_zero, List.setIfInBounds_toArray, List.set_cons_zero, List.set_cons_succ]
    refine wpAnyH_take (i := 8) (v := ?_) rfl (by kernel_rfl) (by kernel_rfl) (by kernel_rfl) (fun _ _ _ h => h) (Or.inl ⟨by kernel_rfl, ?_⟩) (by assumption) ?_
    rotate_left
    · (intro wx hSw; (try dsimp only at hSw); go_simp; try (with_reducible rfl))
    try simp only [Act.put, List.getElem_toArray, List.getElem_cons_succ, List.getElem_cons_zero, List.setIfInBounds_toArray, List.set_cons_zero, List.set_cons_succ]
    refine wpAnyH_take (i := 9) (v := ?_) rfl (by kernel_rfl) (by kernel_rfl) (by kernel_rfl) (fun _ _ _ h => h) (Or.inl ⟨by kernel_rfl, ?_⟩) (by assumption) ?_
    rotate_left
    · (intro wx hSw; (try dsimp only at hSw); go_simp; try (with_reducible rfl))
    try simp only [Act.put, List.getElem_toArray, List.getElem_cons_succ, List.getElem_cons_zero, List.setIfInBounds_toArray, List.set_cons_zero, List.set_cons_succ]
    refine wpAnyH_take (i := 10) (v := ?_) rfl (by kernel_rfl) (by kernel_rfl) (by kernel_rfl) (fun _ _ _ h => h) (Or.inl ⟨by kernel_rfl, ?_⟩) (by assumption) ?_
    rotate_left
    · (intro wx hSw; (try dsimp only at hSw); go_simp; try (with_reducible rfl))
    try simp only [Act.put, List.getElem_toArray, List.getElem_cons_succ, List.getElem_cons_zero, List.setIfInBounds_toArray, List.set_cons_zero, List.set_cons_succ]
    refine wpAnyH_take (i := 11) (v := ?_) rfl (by kernel_rfl) (by kernel_rfl) (by kernel_rfl) (fun _ _ _ h => h) (Or.inl ⟨by kernel_rfl, ?_⟩) (by assumption) ?_
    rotate_left
    · (intro wx hSw; (try dsimp only at hSw); go_simp; try (with_reducible rfl))
    try simp only [Act.put, List.getElem_toArray, List.getElem_cons_succ, List.getElem_cons_zero, List.setIfInBounds_toArray, List.set_cons_zero, List.set_cons_succ]
    refine wpAnyH_done (by kernel_rfl) ?_ _
    go_wp2
    refine bodyPost_ret (v := .tuple #[.agg #[.int .i64 N, .slice A' l c'], .int .i64 s, .int .i64 t, .int .i64 x6, .int .i64 x7]) (by simp [results, Try.results59, go_sem, r0, r1, fr0, fr1]) rfl ?_
    exact S7.out.fin HL.out hl200 HN.out s t x6 x7 _ _

end Go.Proofs.Ytelgjfflhcmljaa
