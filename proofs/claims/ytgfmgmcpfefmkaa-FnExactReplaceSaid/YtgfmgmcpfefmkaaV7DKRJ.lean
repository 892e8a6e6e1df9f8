/-
  What is proved here: what the program leaves when a file is put in the place of another. No conditions beyond those that each theorem states.
-/
import Derived.Test.YtgfmgmcpfefmkaaV7G14
import Derived.Test.YtgfmgmcpfefmkaaV7G15
import Derived.Test.YtgfmgmcpfefmkaaV7G11
import Derived.Test.YtgfmgmcpfefmkaaV7G12
set_option linter.unusedSimpArgs false
set_option linter.unusedVariables false
namespace Go.Proofs.Ytgfmgmcpfefmkaa
open Go.RowKit

theorem Nw.on {w0 w w' : World} {b : Nat} {A1 A2 A3 : Option Addr} {n1 c1 n2 c2 n3 c3 : Nat} {L1 L2 : List Fl} {O : List Dp} (h : Nw w0 w b A1 A2 A3 n1 c1 n2 c2 n3 c3 L1 L2 O) (hb : Bl w w') : Nw w0 w' b A1 A2 A3 n1 c1 n2 c2 n3 c3 L1 L2 O :=
  ⟨h.bx.bl hb, h.dk, h.at_.bl hb, h.rt, h.bl.trans_ hb, h.lo⟩
theorem ownO_put {w : World} {B b : Nat} {v : Value} {L : List Dp} (h : OwnO w B v L) (hb : b < B) (x y z : Value) : OwnO (((w.setCell ⟨b, 0, none⟩ x).setCell ⟨b, 1, none⟩ y).setCell ⟨b, 2, none⟩ z) B v L :=
  owns_setLow (owns_setLow (owns_setLow (show Owns _ _ _ _ _ _ _ from h) hb 0 x) hb 1 y) hb 2 z

set_option maxRecDepth 100000 in
set_option maxHeartbeats 16000000 in
theorem implReplace_any {A1 A2 A3 : Option Addr} {n1 n2 n3 c1 c2 c3 : Nat} {L1 L2 : List Fl} {O : List Dp} (hb : DkB n1 n2 n3 L1 L2 O) (nm d : ByteArray) (hnm : nm.size ≤ 1048576) (hds : d.size ≤ 1048576) (w : World) (H : DiskAt w w.heap.size A1 A2 A3 L1 L2 O) :
    Calls Try.prog 19 #[.agg #[.slice A1 n1 c1, .slice A2 n2 c2, .slice A3 n3 c3], .string nm, .string d] w (ActNew (replD (L1, L2, O) nm d) w) := by
  have KH := Lib.hid H
  have KB := Lib.hid hb
  have m1 := hb.m1
  clear H hb
  obtain ⟨w0, hw0⟩ : ∃ x, x = (w.alloc (.cells #[.slice A1 n1 c1, .slice A2 n2 c2, .slice A3 n3 c3] 31)).alloc (.cells #[.slice none 0 0, .slice none 0 0, .slice none 0 0] 31) := ⟨_, rfl⟩
  have B0 := Lib.hid (show Bl w w0 from by rw [hw0]; exact ((Bl.refl w).alloc_ _).alloc_ _)
  have s0 : w0.heap.size = w.heap.size + 1 + 1 := by rw [hw0]; simp
  have HSH := Lib.hid (show ∀ wx, Bl w0 wx → wx.cell? ⟨w.heap.size, 0, none⟩ = some (.slice A1 n1 c1) ∧ wx.cell? ⟨w.heap.size, 1, none⟩ = some (.slice A2 n2 c2) ∧ wx.cell? ⟨w.heap.size, 2, none⟩ = some (.slice A3 n3 c3) from fun wx hb => by
    rw [hw0] at hb
    exact box3 (Bl.trans_ ((Bl.refl (w.alloc (.cells #[.slice A1 n1 c1, .slice A2 n2 c2, .slice A3 n3 c3] 31))).alloc_ _) hb))
  have HRS := Lib.hid (show ∀ wx, Bl w0 wx → wx.cell? ⟨w.heap.size + 1, 0, none⟩ = some (.slice none 0 0) ∧ wx.cell? ⟨w.heap.size + 1, 1, none⟩ = some (.slice none 0 0) ∧ wx.cell? ⟨w.heap.size + 1, 2, none⟩ = some (.slice none 0 0) ∧ ∀ o, wx.frozen? ⟨w.heap.size + 1, o, none⟩ = false from fun wx hb => by
    rw [hw0] at hb
    obtain ⟨a1, a2, a3⟩ := box3 hb
    simp only [World.size_alloc] at a1 a2 a3
    exact ⟨a1, a2, a3, fun o => by rw [(bcell hb).2 _ _ (by simp)]; simp [go_sem]⟩)
  by_cases hd : diskB (L1, L2, O) = true
  · have HD := Lib.hid hd
    have HE := Lib.hid (replD_yes hd nm d)
    clear hd
    go_enter Try.func19, Try.ntmps19
    go_wp2_with fail
    rw [← hw0]
    refine (implOk_dk KB.out _ (KH.out.bl B0.out)).mono ?_
    rintro e w1 ⟨rfl, hb1⟩
    have I1 := Lib.hid hb1
    obtain ⟨x0, x1, x2⟩ := HSH.out _ I1.out
    rw [HD.out]
    clear hb1 hw0
    have hlt1 : w.heap.size < w1.heap.size := by have := I1.out.size; omega
    have hne1 : w.heap.size ≠ w1.heap.size := by omega
    have hne2 : w1.heap.size ≠ w.heap.size := by omega
    have hne3 : w.heap.size + 1 ≠ w1.heap.size := by have := I1.out.size; omega
    have hne4 : w1.heap.size ≠ w.heap.size + 1 := by omega
    go_wp2_with fail
    refine (replacing_any KB.out.toL HD.out nm d hnm _ (KH.out.bl ((B0.out.trans_ I1.out).alloc_ _))).mono ?_
    rintro e w2 ⟨AO, nO, cO, rfl, hnO, hO, hb2⟩
    have NW0 := Lib.hid (show Nw w0 w2 w1.heap.size A1 A2 A3 n1 c1 n2 c2 n3 c3 L1 L2 O from ⟨(By.new w1 _ _ _).bl hb2, KB.out.toL, KH.out.bl (B0.out.trans_ ((I1.out.alloc_ _).trans_ hb2)), HD.out, (I1.out.alloc_ _).trans_ hb2, I1.out.size⟩)
    simp only [World.size_alloc] at hO
    obtain ⟨hl2, hl3⟩ := replO_len L1 nm d
    have hsz := replO_size (L := L1) (nm := nm) hds
    obtain ⟨OL, hOL⟩ : ∃ OL, OL = replO L1 nm d := ⟨_, rfl⟩
    have HE' := Lib.hid (show replD (L1, L2, O) nm d = runD (L1, L2, O) (L1, L2, O) OL from by rw [HE.out, hOL])
    rw [← hOL] at hO hnO hl2 hl3 hsz
    have HO := Lib.hid hO
    have HNO := Lib.hid hnO
    have HSZ := Lib.hid hsz
    have hn2 : 2 ≤ nO := by omega
    have hn3 : nO ≤ 3 := by omega
    clear hb2 x0 x1 x2 hOL HE hO hnO hsz hl2 hl3
    go_wp2
    go_loopw [23] (fun i wr => ∃ (k : Nat) (B1 B2 B3 : Option Addr) (m1 d1 m2 d2 m3 d3 : Nat) (M1 M2 : List Fl) (MO : List Dp), k ≤ nO ∧ i = .int .i64 k ∧ Hid (Nw w0 wr w1.heap.size B1 B2 B3 m1 d1 m2 d2 m3 d3 M1 M2 MO) ∧ Hid (OwnO wr (w1.heap.size + 1) (.slice AO nO cO) OL) ∧ Hid (replD (L1, L2, O) nm d = runD (L1, L2, O) (M1, M2, MO) (OL.drop k)) ∧ Hid (k = 0 ∨ In3 w0 wr (.slice B1 m1 d1) (.slice B2 m2 d2) (.slice B3 m3 d3) M1 M2 MO)) (fun i _ => nO - (intOf i).toNat)
    case atStart => exact ⟨0, A1, A2, A3, n1, c1, n2, c2, n3, c3, L1, L2, O, by omega, rfl, NW0, HO, Lib.hid (by rw [List.drop_zero]; exact HE'.out), Lib.hid (.inl rfl)⟩
    case round =>
      obtain ⟨k, B1, B2, B3, m1, d1, m2, d2, m3, d3, M1, M2, MO, hk, rfl, NW, HOW, HR, HF⟩ := hrel
      by_cases hlt : k < nO
      · have hkl : k < OL.length := by have := HNO.out; omega
        obtain ⟨A', c', he, -, f1, -⟩ := Owns.shape (show Owns _ _ _ _ _ _ _ from HOW.out)
        injection he with he1 he2 he3
        rw [← he1] at f1
        have K3 := Lib.hid (show OpsAt wr wr.heap.size AO OL from f1)
        clear f1 he1 he2 he3
        obtain ⟨g3, o3, rfl, hg3, hc3⟩ := K3.out.cell (by omega)
        obtain ⟨p0, p1, p2, p3⟩ := hc3 k hkl
        have hds' := HSZ.out _ (List.getElem_mem hkl)
        have hdr : OL.drop k = OL[k] :: OL.drop (k + 1) := List.drop_eq_getElem_cons hkl
        obtain ⟨o, ho⟩ : ∃ o, o = OL[k] := ⟨_, rfl⟩
        rw [← ho] at p0 p1 p2 p3 hds' hdr
        have HR' := Lib.hid (show replD (L1, L2, O) nm d = runD (L1, L2, O) (M1, M2, MO) (o :: OL.drop (k + 1)) from by rw [HR.out, hdr])
        have i0 : (0 : Int) ≤ (k : Int) := by omega
        have i1 : (k : Int) < (nO : Int) := by omega
        obtain ⟨y0, y1, y2⟩ := NW.out.bx.bx
        have hbw := NW.out.bx.bx.lt
        clear hc3 ho hdr
        go_wp2_with fail
        have NWa := Lib.hid (NW.out.on ((Bl.refl wr).alloc_ (.cells #[.int .i64 o.kind, .string o.name, .string o.to, .string o.data] 51)))
        refine (doNext_anyL NWa.out.dk NWa.out.rt o hds' _ NWa.out.at_).mono ?_
        rintro e w3 ⟨vA, vB, vC, rfl, hI⟩
        have XO := Lib.hid ((HOW.out.bl ((Bl.refl wr).alloc_ (.cells #[.int .i64 o.kind, .string o.name, .string o.to, .string o.data] 51))).bl hI.bl)
        clear y0 y1 y2 p0 p1 p2 p3
        obtain ⟨y0, y1, y2⟩ := (NWa.out.bx.bl hI.bl).bx
        have y3 := (NWa.out.bx.bl hI.bl).fr
        have hbw3 := (NWa.out.bx.bl hI.bl).bx.lt
        have hne5 : w1.heap.size ≠ w3.heap.size := by omega
        have hne6 : w3.heap.size ≠ w1.heap.size := by omega
        obtain ⟨PA, PB, PC, kA, eA, kB, eB, kC, eC, ⟨rfl, rfl, rfl⟩, -⟩ := hI.opened'
        by_cases hc : (actD (M1, M2, MO) o).2 = 0
        · obtain ⟨C1, C2, C3, q1, e1, q2, e2, q3, e3, N1, N2, NO, ⟨hs1, hs2, hs3⟩, he, hN, hJ⟩ := NWa.out.step hc hI
          have XO' := Lib.hid (ownO_put (b := w1.heap.size) XO.out (by omega) (.slice PA kA eA) (.slice PB kB eB) (.slice PC kC eC))
          have JJ := Lib.hid hJ
          have HR2 := Lib.hid (show replD (L1, L2, O) nm d = runD (L1, L2, O) (N1, N2, NO) (OL.drop (k + 1)) from by rw [HR'.out, runD_yes hc, he])
          injection hs1 with t1 t2 t3
          injection hs2 with t4 t5 t6
          injection hs3 with t7 t8 t9
          subst t1; subst t2; subst t3; subst t4; subst t5; subst t6; subst t7; subst t8; subst t9
          have NX := Lib.hid hN
          rw [hc]
          clear hI hN hJ he hc
          go_wp2
          go_roundw
          case rel => exact ⟨k + 1, _, _, _, _, _, _, _, _, _, N1, N2, NO, by omega, by go_num, Lib.hid (NX.out.on ((Bl.refl _).alloc_ _)), Lib.hid (XO'.out.bl ((Bl.refl _).alloc_ _)), HR2, Lib.hid (.inr (JJ.out.blx ((Bl.refl _).alloc_ _)))⟩
          case measure => simp [intOf]; omega
        · have HEX := Lib.hid (show replD (L1, L2, O) nm d = ((L1, L2, O), (actD (M1, M2, MO) o).2) from by rw [HR'.out, runD_no hc])
          have BX := Lib.hid (show Bl w0 (w3.alloc (.cells #[.slice PA kA eA, .slice PB kB eB, .slice PC kC eC] 31)) from (NWa.out.bl.trans_ hI.bl).alloc_ _)
          obtain ⟨x0, x1, x2⟩ := HSH.out _ (NWa.out.bl.trans_ hI.bl)
          have hwl : w.heap.size < w3.heap.size := by omega
          obtain ⟨cc, hcc⟩ : ∃ cc, cc = (actD (M1, M2, MO) o).2 := ⟨_, rfl⟩
          rw [← hcc] at HEX hc ⊢
          have bc : (cc == 0) = false := by simpa using hc
          clear hI hcc hc
          go_wp2_with fail
          refine (sameDisk_anyL KB.out.toL _ (KH.out.bl (B0.out.trans_ BX.out))).mono ?_
          rintro e w30 ⟨vA, vB, vC, rfl, hI⟩
          obtain ⟨QA, QB, QC, lA, fA, lB, fB, lC, fC, ⟨rfl, rfl, rfl⟩, -⟩ := hI.opened'
          have J := Lib.hid hI
          obtain ⟨z0, z1, z2, z3⟩ := HRS.out _ (BX.out.trans_ hI.bl)
          have hsz := BX.out.size
          clear hI
          go_wp2
          refine bodyPost_ret (v := .tuple #[.agg #[.slice QA lA fA, .slice QB lB fB, .slice QC lC fC], .int .i64 cc]) (by simp [results, Try.results19, go_sem, z0, z1, z2]) rfl ⟨.slice QA lA fA, .slice QB lB fB, .slice QC lC fC, by rw [HEX.out], by rw [HEX.out]; exact J.out.fin (B0.out.trans_ BX.out) (b := w.heap.size + 1) (by omega) (by omega) _ _ _⟩
      · obtain rfl : k = nO := by omega
        have HEX := Lib.hid (show replD (L1, L2, O) nm d = ((M1, M2, MO), 0) from by rw [HR.out, List.drop_of_length_le (by have := HNO.out; omega)]; rfl)
        have J := Lib.hid (HF.out.resolve_left (by omega))
        obtain ⟨z0, z1, z2, z3⟩ := HRS.out _ NW.out.bl
        obtain ⟨y0, y1, y2⟩ := NW.out.bx.bx
        go_wp2
        refine bodyPost_ret (v := .tuple #[.agg #[.slice B1 m1 d1, .slice B2 m2 d2, .slice B3 m3 d3], .int .i64 0]) (by simp [results, Try.results19, go_sem, z0, z1, z2]) rfl ⟨.slice B1 m1 d1, .slice B2 m2 d2, .slice B3 m3 d3, by rw [HEX.out], by rw [HEX.out]; exact J.out.fin B0.out (b := w.heap.size + 1) (by omega) (by omega) _ _ _⟩
  · have hd' : diskB (L1, L2, O) = false := by simpa using hd
    have HD := Lib.hid hd'
    have HE : replD (L1, L2, O) nm d = (([], [], []), 1) := replD_no hd' nm d
    rw [HE]
    clear hd hd' HE
    go_enter Try.func19, Try.ntmps19
    go_wp2_with fail
    rw [← hw0]
    refine (implOk_dk KB.out _ (KH.out.bl B0.out)).mono ?_
    rintro e w1 ⟨rfl, hb1⟩
    have I1 := Lib.hid hb1
    obtain ⟨z0, z1, z2, z3⟩ := HRS.out _ I1.out
    have hsz := I1.out.size
    have J := Lib.hid (In3.start (Bl.refl w1))
    rw [HD.out]
    clear hb1 hw0
    go_wp2
    refine bodyPost_ret (v := .tuple #[.agg #[.slice none 0 0, .slice none 0 0, .slice none 0 0], .int .i64 1]) (by simp [results, Try.results19, go_sem, z0, z1, z2]) rfl ⟨nilV, nilV, nilV, rfl, J.out.fin (B0.out.trans_ I1.out) (b := w.heap.size + 1) (by omega) (by omega) _ _ _⟩

end Go.Proofs.Ytgfmgmcpfefmkaa
