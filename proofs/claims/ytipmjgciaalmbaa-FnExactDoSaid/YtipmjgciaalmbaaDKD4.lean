/-
  What is proved here: the document's way of doing an op to a disk. No conditions beyond those that each theorem states.
-/
import Derived.Test.YtipmjgciaalmbaaDKD2
import Derived.Test.YtipmjgciaalmbaaDKQ
set_option linter.unusedSimpArgs false
set_option linter.unusedVariables false
namespace Go.Proofs.Ytipmjgciaalmbaa
open Go.RowKit

/-- A disk behind an op that is done to a right one, and what is told of it. -/
def actD (D : Dk) (o : Dp) : Dk × Int :=
  if formB o = false then (D, 2) else if foundB D.1 o = false then (D, 3) else if D.2.2.length = 200 ∨ fitsB (doL D.1 o) = false then (D, 4) else ((doL D.1 o, D.2.1, D.2.2 ++ [o]), 0)
def ActNew (R : Dk × Int) (w : World) (e : Ending) (w' : World) : Prop := ∃ vA vB vC, e = .returned (.tuple #[.agg #[vA, vB, vC], .int .i64 R.2]) ∧ In3 w w' vA vB vC R.1.1 R.1.2.1 R.1.2.2
theorem In3.setOut {w0 wx : World} {vA vB vC : Value} {LA LB : List Fl} {LC : List Dp} (h : In3 w0 wx vA vB vC LA LB LC) {b : Nat} (h0 : w0.heap.size ≤ b) (hA : ∀ g, vA.ownBlock = some g → g ≠ b) (hB : ∀ g, vB.ownBlock = some g → g ≠ b) (hC : ∀ g, vC.ownBlock = some g → g ≠ b) (o : Nat) (u : Value) :
    In3 w0 (wx.setCell ⟨b, o, none⟩ u) vA vB vC LA LB LC :=
  ⟨Owns.setOther (show Owns _ _ _ _ _ _ _ from h.oA) hA u, Owns.setOther (show Owns _ _ _ _ _ _ _ from h.oB) hB u, Owns.setOther (show Owns _ _ _ _ _ _ _ from h.oC) hC u, Bl.set_ h.bl h0 u, h.dAB, h.dAC, h.dBC⟩
theorem In3.ltA {w0 wx : World} {vA vB vC : Value} {LA LB : List Fl} {LC : List Dp} (h : In3 w0 wx vA vB vC LA LB LC) : ∀ g, vA.ownBlock = some g → w0.heap.size ≤ g ∧ g < wx.heap.size := Owns.lt (show Owns _ _ _ _ _ _ _ from h.oA)
theorem In3.ltB {w0 wx : World} {vA vB vC : Value} {LA LB : List Fl} {LC : List Dp} (h : In3 w0 wx vA vB vC LA LB LC) : ∀ g, vB.ownBlock = some g → w0.heap.size ≤ g ∧ g < wx.heap.size := Owns.lt (show Owns _ _ _ _ _ _ _ from h.oB)
theorem In3.ltC {w0 wx : World} {vA vB vC : Value} {LA LB : List Fl} {LC : List Dp} (h : In3 w0 wx vA vB vC LA LB LC) : ∀ g, vC.ownBlock = some g → w0.heap.size ≤ g ∧ g < wx.heap.size := Owns.lt (show Owns _ _ _ _ _ _ _ from h.oC)

set_option maxRecDepth 100000 in
set_option maxHeartbeats 16000000 in
theorem l15Act_any {A1 A2 A3 : Option Addr} {n1 n2 n3 c1 c2 c3 : Nat} {L1 L2 : List Fl} {O : List Dp} (hb : DkB n1 n2 n3 L1 L2 O) (hd : diskB (L1, L2, O) = true) (o : Dp) (hos : o.data.size ≤ 1048576) (w : World) (H : DiskAt w w.heap.size A1 A2 A3 L1 L2 O) :
    Calls Try.prog 68 #[.agg #[.slice A1 n1 c1, .slice A2 n2 c2, .slice A3 n3 c3], .agg #[.int .i64 o.kind, .string o.name, .string o.to, .string o.data]] w (ActNew (actD (L1, L2, O) o) w) := by
  obtain ⟨q, a, b, d⟩ := o
  simp only at hos
  have KH := Lib.hid H
  have KB := Lib.hid hb
  obtain ⟨f1, f2, f3⟩ := files_parts (disk_live hd)
  have SO := Lib.hid (ord_sorted f3)
  have OO := Lib.hid f3
  simp only at f1 f2
  have hn1 : n1 ≤ 60 := by have := KB.out.l1; omega
  have hO2 : n3 ≤ 200 := by
    have h := hd
    unfold diskB at h
    simp only [Bool.and_eq_true, decide_eq_true_eq] at h
    have := KB.out.l3
    omega
  have hdl := do_len L1 ⟨q, a, b, d⟩
  have hdsm := do_sum L1 ⟨q, a, b, d⟩
  simp only at hdsm
  clear H hb hd f3
  obtain ⟨w0, hw0⟩ : ∃ x, x = ((w.alloc (.cells #[.slice A1 n1 c1, .slice A2 n2 c2, .slice A3 n3 c3] 31)).alloc (.cells #[.int .i64 q, .string a, .string b, .string d] 45)).alloc (.cells #[.slice none 0 0, .slice none 0 0, .slice none 0 0] 31) := ⟨_, rfl⟩
  have B0 := Lib.hid (show Bl w w0 from by rw [hw0]; exact (((Bl.refl w).alloc_ _).alloc_ _).alloc_ _)
  have s0 : w0.heap.size = w.heap.size + 1 + 1 + 1 := by rw [hw0]; simp
  have HSH := Lib.hid (show ∀ wx, Bl w0 wx → wx.cell? ⟨w.heap.size, 0, none⟩ = some (.slice A1 n1 c1) ∧ wx.cell? ⟨w.heap.size, 1, none⟩ = some (.slice A2 n2 c2) ∧ wx.cell? ⟨w.heap.size, 2, none⟩ = some (.slice A3 n3 c3) ∧ wx.cell? ⟨w.heap.size + 1, 0, none⟩ = some (.int .i64 q) ∧ wx.cell? ⟨w.heap.size + 1, 1, none⟩ = some (.string a) ∧ wx.cell? ⟨w.heap.size + 1, 2, none⟩ = some (.string b) ∧ wx.cell? ⟨w.heap.size + 1, 3, none⟩ = some (.string d) from fun wx hb => by
    rw [hw0] at hb
    obtain ⟨a1, a2, a3⟩ := box3 (Bl.trans_ (((Bl.refl (w.alloc (.cells #[.slice A1 n1 c1, .slice A2 n2 c2, .slice A3 n3 c3] 31))).alloc_ _).alloc_ _) hb)
    obtain ⟨b1, b2, b3, b4⟩ := box4 (Bl.trans_ ((Bl.refl ((w.alloc (.cells #[.slice A1 n1 c1, .slice A2 n2 c2, .slice A3 n3 c3] 31)).alloc (.cells #[.int .i64 q, .string a, .string b, .string d] 45))).alloc_ _) hb)
    simp only [World.size_alloc] at b1 b2 b3 b4
    exact ⟨a1, a2, a3, b1, b2, b3, b4⟩)
  have HRS := Lib.hid (show ∀ wx, Bl w0 wx → wx.cell? ⟨w.heap.size + 1 + 1, 0, none⟩ = some (.slice none 0 0) ∧ wx.cell? ⟨w.heap.size + 1 + 1, 1, none⟩ = some (.slice none 0 0) ∧ wx.cell? ⟨w.heap.size + 1 + 1, 2, none⟩ = some (.slice none 0 0) ∧ ∀ o, wx.frozen? ⟨w.heap.size + 1 + 1, o, none⟩ = false from fun wx hb => by
    rw [hw0] at hb
    obtain ⟨a1, a2, a3⟩ := box3 hb
    simp only [World.size_alloc] at a1 a2 a3
    exact ⟨a1, a2, a3, fun o => by rw [(bcell hb).2 _ _ (by simp)]; simp [go_sem]⟩)
  have K0 := Lib.hid (KH.out.bl B0.out)
  have I0 := Lib.hid (Bl.refl w0)
  show Calls Try.prog 68 #[.agg #[.slice A1 n1 c1, .slice A2 n2 c2, .slice A3 n3 c3], .agg #[.int .i64 q, .string a, .string b, .string d]] w _
  by_cases b1 : formB ⟨q, a, b, d⟩ = true
  · have HB1 := Lib.hid b1
    by_cases b2 : foundB L1 ⟨q, a, b, d⟩ = true
    · have HB2 := Lib.hid b2
      clear b1 b2
      go_enter Try.func68, Try.ntmps68
      go_wp2_with fail
      rw [← hw0]
      refine (l15Form_any ⟨q, a, b, d⟩ _).mono ?_
      rintro e w1 ⟨rfl, hb1⟩
      have I1 := Lib.hid (I0.out.trans_ hb1)
      obtain ⟨x10, x11, x12, y10, y11, y12, y13⟩ := HSH.out _ I1.out
      clear hb1 hw0
      rw [HB1.out]
      go_wp2_with fail
      refine (l15Do_any A1 n1 c1 L1 KB.out.l1 ⟨q, a, b, d⟩ _ (by omega) (by omega) (by simp only; omega) SO.out (KH.out.f1.bl (B0.out.trans_ I1.out))).mono ?_
      rintro e w3 ⟨v3, rfl, hv3, hb3⟩
      have I3 := Lib.hid (I1.out.trans_ hb3)
      clear x10 x11 x12 y10 y11 y12 y13
      obtain ⟨x30, x31, x32, y30, y31, y32, y33⟩ := HSH.out _ I3.out
      obtain ⟨A', c', rfl, hc', ha', hlt3⟩ := own_shapeF hv3
      have F3 := Lib.hid ha'
      have V3 := Lib.hid hv3
      have LT3 := Lib.hid hlt3
      have z3' := hb3.size
      have z1' := I1.out.size
      obtain ⟨D, hD⟩ : ∃ D, D = doL L1 ⟨q, a, b, d⟩ := ⟨_, rfl⟩
      rw [← hD] at hdl hdsm hc' F3 V3
      have HD := Lib.hid hD
      have HFT := Lib.hid (show filesB D = fitsB D from by rw [hD]; exact files_fits (do_files OO.out HB1.out))
      rw [← hD]
      obtain ⟨m', hm'⟩ : ∃ m', m' = D.length := ⟨_, rfl⟩
      rw [← hm'] at hdl hc' V3
      rw [← hm', HB2.out]
      have HM' := Lib.hid hm'
      have h200 : ((n3 : Int) == 200) = decide (n3 = 200) := by
        rw [Bool.eq_iff_iff]; simp; omega
      clear hv3 ha' hD hm' hb3 hlt3
      by_cases b3 : n3 = 200
      · have e200 : ((n3 : Int) == 200) = true := by rw [h200]; simpa using b3
        have HB3 := Lib.hid b3
        clear h200 b3
        go_wp2_with fail
        refine (l15Copy_any KB.out _ (KH.out.bl (B0.out.trans_ I3.out))).mono ?_
        rintro e wz ⟨vA, vB, vC, rfl, hIz⟩
        obtain ⟨PA, PB, PC, kA, eA, kB, eB, kC, eC, ⟨rfl, rfl, rfl⟩, -⟩ := hIz.opened'
        have J := Lib.hid hIz
        obtain ⟨z0, z1, z2, z3⟩ := HRS.out _ (I3.out.trans_ hIz.bl)
        have hsz := I3.out.size
        clear hIz
        go_wp2
        refine bodyPost_ret (v := .tuple #[.agg #[.slice PA kA eA, .slice PB kB eB, .slice PC kC eC], .int .i64 4]) (by simp [results, Try.results68, go_sem, z0, z1, z2]) rfl ⟨.slice PA kA eA, .slice PB kB eB, .slice PC kC eC, by rw [show (actD (L1, L2, O) ⟨q, a, b, d⟩).2 = 4 from by unfold actD; rw [if_neg (by rw [HB1.out]; simp), if_neg (by simp only; rw [HB2.out]; simp), if_pos (.inl (by simp only; rw [← KB.out.l3]; exact HB3.out))]], ?_⟩
        rw [show (actD (L1, L2, O) ⟨q, a, b, d⟩).1 = (L1, L2, O) from by unfold actD; rw [if_neg (by rw [HB1.out]; simp), if_neg (by simp only; rw [HB2.out]; simp), if_pos (.inl (by simp only; rw [← KB.out.l3]; exact HB3.out))]]
        exact J.out.fin (B0.out.trans_ I3.out) (b := w.heap.size + 1 + 1) (by omega) (by omega) _ _ _
      · have e200 : ((n3 : Int) == 200) = false := by rw [h200]; simpa using b3
        clear h200
        go_wp2_with fail
        refine (l15Files_any A' m' c' D HM'.out _ (by omega) (by omega) F3.out).mono ?_
        rintro e w4 ⟨rfl, hb4⟩
        rw [HFT.out]
        have z4' := hb4.size
        have V4 := Lib.hid (V3.out.bl hb4)
        have I4 := Lib.hid (I3.out.trans_ hb4)
        clear x30 x31 x32 y30 y31 y32 y33
        obtain ⟨x40, x41, x42, y40, y41, y42, y43⟩ := HSH.out _ I4.out
        clear hb4
        by_cases b4 : fitsB D = true
        · have HB4 := Lib.hid b4
          rw [b4]
          clear b4 x40 x41 x42 y40 y41 y42 y43
          obtain ⟨x40, x41, x42, y40, y41, y42, y43⟩ := HSH.out _ I4.out
          go_wp2_with fail
          refine (l15Copy_any KB.out _ (KH.out.bl (B0.out.trans_ I4.out))).mono ?_
          rintro e w5 ⟨vA, vB, vC, rfl, hI5⟩
          obtain ⟨PA, PB, PC, kA, eA, kB, eB, kC, eC, ⟨rfl, rfl, rfl⟩, -⟩ := hI5.opened'
          have z5' := hI5.bl.size
          have I5 := Lib.hid (I4.out.trans_ hI5.bl)
          have ltB := hI5.ltB
          have ltC := hI5.ltC
          have ltA : ∀ g, (Value.slice A' m' c').ownBlock = some g → w1.heap.size ≤ g ∧ g < w3.heap.size := fun g hg => LT3.out g (by rw [← ownBlock_slice A' m' c']; exact hg)
          have J := Lib.hid (show In3 w w5 (.slice A' m' c') (.slice PB kB eB) (.slice PC kC eC) D L2 O from
            ⟨(V4.out.bl hI5.bl).low (by have := B0.out.size; omega), hI5.oB.low (by have := B0.out.size; omega), hI5.oC.low (by have := B0.out.size; omega), B0.out.trans_ I5.out,
              (fun g h1 h2 => by have := ltA g h1; have := ltB g h2; omega), (fun g h1 h2 => by have := ltA g h1; have := ltC g h2; omega), hI5.dBC⟩)
          have zw := B0.out.size
          have J2 := Lib.hid (J.out.blx ((Bl.refl w5).alloc_ (.cells #[.slice A' m' c', .slice PB kB eB, .slice PC kC eC] 31)))
          have BWX := Lib.hid (show Bl w0 (w5.alloc (.cells #[.slice A' m' c', .slice PB kB eB, .slice PC kC eC] 31)) from I5.out.alloc_ _)
          have BQ := Lib.hid (Bx.new w5 (.slice A' m' c') (.slice PB kB eB) (.slice PC kC eC) 31)
          have QF := Lib.hid (show ∀ o, (w5.alloc (.cells #[.slice A' m' c', .slice PB kB eB, .slice PC kC eC] 31)).frozen? ⟨w5.heap.size, o, none⟩ = false from fun o => by simp [go_sem])
          clear x40 x41 x42 y40 y41 y42 y43
          obtain ⟨u0, u1, u2, v0, v1, v2, v3⟩ := HSH.out _ I5.out
          have hl3 : O.length ≤ 1048575 := by have := KB.out.l3; omega
          have OC2 := Lib.hid (show ∀ j u, (encO (⟨q, a, b, d⟩ : Dp))[j]? = some u → ((w5.alloc (.cells #[.slice A' m' c', .slice PB kB eB, .slice PC kC eC] 31)).alloc (.cells #[.int .i64 q, .string a, .string b, .string d] 45)).cell? ⟨w5.heap.size + 1, j, none⟩ = some u from fun j u hj => by
            have e : (w5.alloc (.cells #[.slice A' m' c', .slice PB kB eB, .slice PC kC eC] 31)).heap.size = w5.heap.size + 1 := by simp
            rw [← e, World.cell?_alloc_mark]
            match j, hj with
            | 0, hj => exact hj
            | 1, hj => exact hj
            | 2, hj => exact hj
            | 3, hj => exact hj
            | j + 4, hj => simp [encO] at hj)
          clear hI5
          have i5' := I5.out.size
          have ne0 : ¬ w5.heap.size = w.heap.size := by omega
          have ne1 : ¬ w5.heap.size = w.heap.size + 1 := by omega
          have ne2 : ¬ w5.heap.size = w.heap.size + 1 + 1 := by omega
          have i0 : w.heap.size < w5.heap.size := by omega
          have i1 : w.heap.size + 1 < w5.heap.size := by omega
          have i2 : w.heap.size + 1 + 1 < w5.heap.size := by omega
          go_wp2_with (at_builtin; refine In3.wpSnoc rfl (.tmp 41) (.tmp 43) rfl (J2.out.blx ((Bl.refl _).alloc_ _)) ⟨q, a, b, d⟩ (w5.heap.size + 1) rfl rfl hl3 OC2.out ?_)
          intro P k e w7 hI7 hg7 hx7
          have QX := Lib.hid (BQ.out.bl ((Bl.refl _).alloc_ (.cells #[.int .i64 q, .string a, .string b, .string d] 45)))
          have hneC : some w5.heap.size ≠ (Value.slice PC kC eC).ownBlock := fun e => by have := ltC _ e.symm; omega
          have t0 := hg7.cell QX.out.c0 hneC
          have t1 := hg7.cell QX.out.c1 hneC
          have t2 := hg7.cell QX.out.c2 hneC
          have tf : ∀ o, w7.frozen? ⟨w5.heap.size, o, none⟩ = false := fun o => by
            have hlt : w5.heap.size < ((w5.alloc (.cells #[.slice A' m' c', .slice PB kB eB, .slice PC kC eC] 31)).alloc (.cells #[.int .i64 q, .string a, .string b, .string d] 45)).heap.size := by simp; omega
            rw [World.frozen?_of_block (a := ⟨w5.heap.size, o, none⟩) (hg7.block _ hlt hneC)]
            rw [(bcell ((Bl.refl _).alloc_ (.cells #[.int .i64 q, .string a, .string b, .string d] 45))).2 _ _ (by simp)]
            exact QF.out o
          have hneW : ∀ b, w.heap.size ≤ b → b < w0.heap.size → some b ≠ (Value.slice PC kC eC).ownBlock := fun b hb1 hb2 e => by have := ltC _ e.symm; have := I4.out.size; omega
          have RX := HRS.out _ (BWX.out.alloc_ (.cells #[.int .i64 q, .string a, .string b, .string d] 45))
          have r0 := hg7.cell RX.1 (hneW (w.heap.size + 1 + 1) (by omega) (by omega))
          have r1 := hg7.cell RX.2.1 (hneW (w.heap.size + 1 + 1) (by omega) (by omega))
          have r2 := hg7.cell RX.2.2.1 (hneW (w.heap.size + 1 + 1) (by omega) (by omega))
          have rf : ∀ o, w7.frozen? ⟨w.heap.size + 1 + 1, o, none⟩ = false := fun o => by
            have hlt : w.heap.size + 1 + 1 < ((w5.alloc (.cells #[.slice A' m' c', .slice PB kB eB, .slice PC kC eC] 31)).alloc (.cells #[.int .i64 q, .string a, .string b, .string d] 45)).heap.size := by simp; omega
            rw [World.frozen?_of_block (a := ⟨w.heap.size + 1 + 1, o, none⟩) (hg7.block _ hlt (hneW (w.heap.size + 1 + 1) (by omega) (by omega)))]
            exact RX.2.2.2 o
          have I7 := Lib.hid hI7
          have hz7 := hg7.size
          simp only [World.size_alloc] at hz7
          have ltC7 : ∀ g, (Value.slice P k e).ownBlock = some g → g ≠ w5.heap.size := fun g hg he => by
            rcases hx7 g hg with h | h
            · have := ltC g h; omega
            · first | omega | (simp only [World.size_alloc] at h; omega)
          have ltCr : ∀ g, (Value.slice P k e).ownBlock = some g → g ≠ w.heap.size + 1 + 1 := fun g hg he => by
            rcases hx7 g hg with h | h
            · have := ltC g h; have := I4.out.size; omega
            · first | omega | (simp only [World.size_alloc] at h; omega)
          have HA := Lib.hid (show actD (L1, L2, O) ⟨q, a, b, d⟩ = ((D, L2, O ++ [⟨q, a, b, d⟩]), 0) from by unfold actD; rw [if_neg (by rw [HB1.out]; simp), if_neg (by simp only; rw [HB2.out]; simp), if_neg (by simp only; rintro (h | h); exact b3 (by rw [KB.out.l3]; exact h); rw [← HD.out, HB4.out] at h; exact absurd h (by simp)), ← HD.out])
          clear hI7 hg7 u0 u1 u2 v0 v1 v2 v3 RX
          go_wp2
          refine bodyPost_ret (v := .tuple #[.agg #[.slice A' m' c', .slice PB kB eB, .slice P k e], .int .i64 0]) (by simp [results, Try.results68, go_sem, r0, r1, r2, t0, t1, t2]) rfl ⟨.slice A' m' c', .slice PB kB eB, .slice P k e, by rw [HA.out], ?_⟩
          rw [HA.out]
          exact ((((I7.out.setOut (b := w5.heap.size) (by omega) (fun g h => by have := ltA g h; omega) (fun g h => by have := ltB g h; omega) ltC7 2 _).setOut (b := w.heap.size + 1 + 1) (by omega) (fun g h => by have := ltA g h; omega) (fun g h => by have := ltB g h; omega) ltCr 0 _).setOut (b := w.heap.size + 1 + 1) (by omega) (fun g h => by have := ltA g h; omega) (fun g h => by have := ltB g h; omega) ltCr 1 _).setOut (b := w.heap.size + 1 + 1) (by omega) (fun g h => by have := ltA g h; omega) (fun g h => by have := ltB g h; omega) ltCr 2 _)
        · have HB4 := Lib.hid (show fitsB D = false from by simpa using b4)
          rw [HB4.out]
          clear b4
          go_wp2_with fail
          refine (l15Copy_any KB.out _ (KH.out.bl (B0.out.trans_ I4.out))).mono ?_
          rintro e wz ⟨vA, vB, vC, rfl, hIz⟩
          obtain ⟨PA, PB, PC, kA, eA, kB, eB, kC, eC, ⟨rfl, rfl, rfl⟩, -⟩ := hIz.opened'
          have J := Lib.hid hIz
          obtain ⟨z0, z1, z2, z3⟩ := HRS.out _ (I4.out.trans_ hIz.bl)
          have hsz := I4.out.size
          clear hIz
          go_wp2
          refine bodyPost_ret (v := .tuple #[.agg #[.slice PA kA eA, .slice PB kB eB, .slice PC kC eC], .int .i64 4]) (by simp [results, Try.results68, go_sem, z0, z1, z2]) rfl ⟨.slice PA kA eA, .slice PB kB eB, .slice PC kC eC, by rw [show (actD (L1, L2, O) ⟨q, a, b, d⟩).2 = 4 from by unfold actD; rw [if_neg (by rw [HB1.out]; simp), if_neg (by simp only; rw [HB2.out]; simp), if_pos (.inr (by simp only; rw [← HD.out]; exact HB4.out))]], ?_⟩
          rw [show (actD (L1, L2, O) ⟨q, a, b, d⟩).1 = (L1, L2, O) from by unfold actD; rw [if_neg (by rw [HB1.out]; simp), if_neg (by simp only; rw [HB2.out]; simp), if_pos (.inr (by simp only; rw [← HD.out]; exact HB4.out))]]
          exact J.out.fin (B0.out.trans_ I4.out) (b := w.heap.size + 1 + 1) (by omega) (by omega) _ _ _
    · have HB2 := Lib.hid (show foundB L1 ⟨q, a, b, d⟩ = false from by simpa using b2)
      clear b1 b2
      go_enter Try.func68, Try.ntmps68
      go_wp2_with fail
      rw [← hw0]
      refine (l15Form_any ⟨q, a, b, d⟩ _).mono ?_
      rintro e w1 ⟨rfl, hb1⟩
      have I1 := Lib.hid (I0.out.trans_ hb1)
      obtain ⟨x10, x11, x12, y10, y11, y12, y13⟩ := HSH.out _ I1.out
      clear hb1 hw0
      rw [HB1.out]
      go_wp2_with fail
      refine (l15Do_any A1 n1 c1 L1 KB.out.l1 ⟨q, a, b, d⟩ _ (by omega) (by omega) (by simp only; omega) SO.out (KH.out.f1.bl (B0.out.trans_ I1.out))).mono ?_
      rintro e w3 ⟨v3, rfl, hv3, hb3⟩
      have I3 := Lib.hid (I1.out.trans_ hb3)
      clear x10 x11 x12 y10 y11 y12 y13
      obtain ⟨x30, x31, x32, y30, y31, y32, y33⟩ := HSH.out _ I3.out
      obtain ⟨A', c', rfl, hc', ha', hlt3⟩ := own_shapeF hv3
      rw [HB2.out]
      clear hv3 ha' hb3 hlt3
      go_wp2_with fail
      refine (l15Copy_any KB.out _ (KH.out.bl (B0.out.trans_ I3.out))).mono ?_
      rintro e wz ⟨vA, vB, vC, rfl, hIz⟩
      obtain ⟨PA, PB, PC, kA, eA, kB, eB, kC, eC, ⟨rfl, rfl, rfl⟩, -⟩ := hIz.opened'
      have J := Lib.hid hIz
      obtain ⟨z0, z1, z2, z3⟩ := HRS.out _ (I3.out.trans_ hIz.bl)
      have hsz := I3.out.size
      clear hIz
      go_wp2
      refine bodyPost_ret (v := .tuple #[.agg #[.slice PA kA eA, .slice PB kB eB, .slice PC kC eC], .int .i64 3]) (by simp [results, Try.results68, go_sem, z0, z1, z2]) rfl ⟨.slice PA kA eA, .slice PB kB eB, .slice PC kC eC, by rw [show (actD (L1, L2, O) ⟨q, a, b, d⟩).2 = 3 from by unfold actD; rw [if_neg (by rw [HB1.out]; simp), if_pos (by simp only; exact HB2.out)]], ?_⟩
      rw [show (actD (L1, L2, O) ⟨q, a, b, d⟩).1 = (L1, L2, O) from by unfold actD; rw [if_neg (by rw [HB1.out]; simp), if_pos (by simp only; exact HB2.out)]]
      exact J.out.fin (B0.out.trans_ I3.out) (b := w.heap.size + 1 + 1) (by omega) (by omega) _ _ _
  · have HB1 := Lib.hid (show formB ⟨q, a, b, d⟩ = false from by simpa using b1)
    clear b1
    go_enter Try.func68, Try.ntmps68
    go_wp2_with fail
    rw [← hw0]
    refine (l15Form_any ⟨q, a, b, d⟩ _).mono ?_
    rintro e w1 ⟨rfl, hb1⟩
    have I1 := Lib.hid (I0.out.trans_ hb1)
    obtain ⟨x10, x11, x12, y10, y11, y12, y13⟩ := HSH.out _ I1.out
    clear hb1 hw0
    rw [HB1.out]
    go_wp2_with fail
    refine (l15Copy_any KB.out _ (KH.out.bl (B0.out.trans_ I1.out))).mono ?_
    rintro e wz ⟨vA, vB, vC, rfl, hIz⟩
    obtain ⟨PA, PB, PC, kA, eA, kB, eB, kC, eC, ⟨rfl, rfl, rfl⟩, -⟩ := hIz.opened'
    have J := Lib.hid hIz
    obtain ⟨z0, z1, z2, z3⟩ := HRS.out _ (I1.out.trans_ hIz.bl)
    have hsz := I1.out.size
    clear hIz
    go_wp2
    refine bodyPost_ret (v := .tuple #[.agg #[.slice PA kA eA, .slice PB kB eB, .slice PC kC eC], .int .i64 2]) (by simp [results, Try.results68, go_sem, z0, z1, z2]) rfl ⟨.slice PA kA eA, .slice PB kB eB, .slice PC kC eC, by rw [show (actD (L1, L2, O) ⟨q, a, b, d⟩).2 = 2 from by unfold actD; rw [if_pos HB1.out]], ?_⟩
    rw [show (actD (L1, L2, O) ⟨q, a, b, d⟩).1 = (L1, L2, O) from by unfold actD; rw [if_pos HB1.out]]
    exact J.out.fin (B0.out.trans_ I1.out) (b := w.heap.size + 1 + 1) (by omega) (by omega) _ _ _

end Go.Proofs.Ytipmjgciaalmbaa
