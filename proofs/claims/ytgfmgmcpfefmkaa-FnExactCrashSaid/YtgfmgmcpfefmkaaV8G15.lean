/-
  What is proved here: what the program leaves when power is lost; how many files there are at most behind a loss of power; toInt64S makes new memory that can be marked. No conditions beyond those that each theorem states.
-/
import Derived.Test.YtgfmgmcpfefmkaaV8G14
import Derived.Test.YtgfmgmcpfefmkaaV8G03
set_option linter.unusedSimpArgs false
set_option linter.unusedVariables false
namespace Go.Proofs.Ytgfmgmcpfefmkaa
open Go.RowKit

set_option maxRecDepth 100000 in
set_option maxHeartbeats 8000000 in
theorem implCrash_any {A1 A2 A3 : Option Addr} {n1 n2 n3 c1 c2 c3 : Nat} {L1 L2 : List Fl} {O : List Dp} (hb : DkB n1 n2 n3 L1 L2 O) (AK : Option Addr) (k cK : Nat) (K : List Int) (hk : k = K.length) (hkm : k ≤ 1048576) (m : Int) (hm64 : m ≤ 9223372036854775807) (w : World) (H : DiskAt w w.heap.size A1 A2 A3 L1 L2 O) (HK : IntsAt w w.heap.size AK K) :
    Calls Try.prog 12 #[.agg #[.slice A1 n1 c1, .slice A2 n2 c2, .slice A3 n3 c3], .slice AK k cK, .int .i64 m] w (CrashNew (crashD (L1, L2, O) K m) w) := by
  have KH := Lib.hid H
  have KB := Lib.hid hb
  have KK := Lib.hid HK
  have HKL := Lib.hid hk
  have m3 := hb.m3
  have N3 := Lib.hid hb.l3
  clear H hb HK hk
  obtain ⟨w0, hw0⟩ : ∃ x, x = (w.alloc (.cells #[.slice A1 n1 c1, .slice A2 n2 c2, .slice A3 n3 c3] 31)).alloc (.cells #[.slice none 0 0, .slice none 0 0, .slice none 0 0] 31) := ⟨_, rfl⟩
  have B0 := Lib.hid (show Bl w w0 from by rw [hw0]; exact ((Bl.refl w).alloc_ _).alloc_ _)
  have s0 : w0.heap.size = w.heap.size + 1 + 1 := by rw [hw0]; simp
  have HSH := Lib.hid (show ∀ wx, Bl w0 wx → wx.cell? ⟨w.heap.size, 0, none⟩ = some (.slice A1 n1 c1) ∧ wx.cell? ⟨w.heap.size, 1, none⟩ = some (.slice A2 n2 c2) ∧ wx.cell? ⟨w.heap.size, 2, none⟩ = some (.slice A3 n3 c3) from fun wx hb => by
    rw [hw0] at hb
    exact box3 (Bl.trans_ ((Bl.refl (w.alloc (.cells #[.slice A1 n1 c1, .slice A2 n2 c2, .slice A3 n3 c3] 31))).alloc_ _) hb))
  have HRS := Lib.hid (show ∀ wx, Bl w0 wx → wx.cell? ⟨w.heap.size + 1, 0, none⟩ = some (.slice none 0 0) ∧ wx.cell? ⟨w.heap.size + 1, 1, none⟩ = some (.slice none 0 0) ∧ wx.cell? ⟨w.heap.size + 1, 2, none⟩ = some (.slice none 0 0) ∧ ∀ o, wx.frozen? ⟨w.heap.size + 1, o, none⟩ = false from fun wx hb => by
    rw [hw0] at hb
    obtain ⟨a1, a2, a3⟩ := box3 hb
    simp only [World.size_alloc] at a1 a2 a3
    exact ⟨a1, a2, a3, fun o => by rw [(bcell hb).2 _ _ (by simp)]; simp [go_sem]⟩)
  by_cases hd : diskB (L1, L2, O) = true
  · have HD := Lib.hid hd
    have hn200 : n3 ≤ 200 := by have := (disk_parts hd).2.1; have := N3.out; omega
    clear hd
    by_cases hr : riseB n3 (-1) K = true
    · have HR := Lib.hid hr
      clear hr
      by_cases h0 : m < 0
      · have b0 : decide (m < 0) = true := by simpa using h0
        go_enter Try.func12, Try.ntmps12
        go_wp2_with fail
        rw [← hw0]
        refine (implOk_dk KB.out _ (KH.out.bl B0.out)).mono ?_
        rintro e w1 ⟨rfl, hb1⟩
        have I1 := Lib.hid hb1
        obtain ⟨x0, x1, x2⟩ := HSH.out _ I1.out
        rw [HD.out]
        clear hb1 hw0
        go_wp2_with fail
        refine (arePlaces_any AK k cK K HKL.out n3 (by omega) _ (by omega) (KK.out.bl (B0.out.trans_ I1.out))).mono ?_
        rintro e w2 ⟨rfl, hb2⟩
        have I2 := Lib.hid (I1.out.trans_ hb2)
        clear hb2 x0 x1 x2
        rw [HR.out]
        obtain ⟨z0, z1, z2, z3⟩ := HRS.out _ I2.out
        have hsz := I2.out.size
        have J := Lib.hid (In3.start I2.out)
        have HE := Lib.hid (crashD_no (D := (L1, L2, O)) (K := K) (m := m) (fun h => absurd h.2.2.1 (by omega)))
        go_wp2
        refine bodyPost_ret (v := .tuple #[.agg #[.slice none 0 0, .slice none 0 0, .slice none 0 0], .bool false]) (by simp [results, Try.results12, go_sem, z0, z1, z2]) rfl ⟨nilV, nilV, nilV, by rw [HE.out]; rfl, by rw [HE.out]; exact (In3.start (Bl.refl _)).fin (B0.out.trans_ I2.out) (b := w.heap.size + 1) (by omega) (by omega) _ _ _⟩
      · have hm0 : 0 ≤ m := by omega
        have b0 : decide (m < 0) = false := by simpa using h0
        clear h0
        go_enter Try.func12, Try.ntmps12
        go_wp2_with fail
        rw [← hw0]
        refine (implOk_dk KB.out _ (KH.out.bl B0.out)).mono ?_
        rintro e w1 ⟨rfl, hb1⟩
        have I1 := Lib.hid hb1
        obtain ⟨x0, x1, x2⟩ := HSH.out _ I1.out
        rw [HD.out]
        clear hb1 hw0
        go_wp2_with fail
        refine (arePlaces_any AK k cK K HKL.out n3 (by omega) _ (by omega) (KK.out.bl (B0.out.trans_ I1.out))).mono ?_
        rintro e w2 ⟨rfl, hb2⟩
        have I2 := Lib.hid (I1.out.trans_ hb2)
        clear hb2 x0 x1 x2
        rw [HR.out]
        obtain ⟨x0, x1, x2⟩ := HSH.out _ I2.out
        have HRI := Lib.hid (show riseB O.length (-1) K = true from by rw [← N3.out]; exact HR.out)
        have HF := Lib.hid (good_forms (disk_parts HD.out).2.2.1)
        have HS0 := Lib.hid (files_parts (disk_parts HD.out).1)
        have hkl2 : k ≤ 200 := by
          rcases rise_len HRI.out with h | h
          · have := HKL.out; rw [h] at this; simp at this; omega
          · have := N3.out; have := HKL.out; omega
        have N2 := Lib.hid KB.out.l2
        go_wp2_with fail
        clear b0 x0 x1 x2
        go_loopw [8, 33] (fun v i wr => ∃ (t mC cC : Nat) (AC : Option Addr), t ≤ k ∧ i = .int .i64 t ∧ v = .slice AC mC cC ∧ Hid (mC = (crashSt L2 O K m t).length) ∧ Hid (FilesAt wr wr.heap.size AC (crashSt L2 O K m t)) ∧ Bl w0 wr) (fun _ i _ => k - (intOf i).toNat)
        case atStart => exact ⟨0, n2, c2, A2, by omega, rfl, rfl, N2, Lib.hid (KH.out.f2.bl (B0.out.trans_ I2.out)), I2.out⟩
        case round =>
          obtain ⟨t, mC, cC, AC, ht, rfl, rfl, HM, FC, hbl⟩ := hrel
          have BC := Lib.hid hbl
          by_cases hlt2 : t < k
          · have htl : t < K.length := by have := HKL.out; omega
            obtain ⟨p, hp, hKp, hpk⟩ := pick_at (m := m) HRI.out htl
            obtain ⟨gk, ok, rfl, hgk, hck⟩ := KK.out.cell (by omega)
            have p1 := hck t htl
            rw [hKp] at p1
            obtain ⟨g3, o3, rfl, hg3, hc3⟩ := KH.out.f3.cell (by omega)
            obtain ⟨r0, r1, r2, r3⟩ := hc3 p hp
            have hs3 := KB.out.s3
            obtain ⟨hs1, hs2⟩ := crash_small (m := m) HRI.out (show t ≤ K.length from by omega) (.inr ⟨L1, HD.out⟩) KB.out.s3
            have SO := Lib.hid (ord_sorted (crash_ord (m := m) HRI.out HF.out HS0.out.2.2 t (by omega)))
            have ST := Lib.hid (show crashSt L2 O K m (t + 1) = doL (crashSt L2 O K m t) (pickO O K m t) from rfl)
            obtain ⟨C, hC⟩ : ∃ C, C = crashSt L2 O K m t := ⟨_, rfl⟩
            rw [← hC] at HM FC SO ST hs1 hs2
            have hod : O[p].data.size ≤ 1048576 := by
              have h1 := szL_at szDp O p hp
              have h2 : szDp O[p] = O[p].name.size + O[p].to.size + O[p].data.size := rfl
              omega
            have FO := Lib.hid (HF.out _ (List.getElem_mem hp))
            obtain ⟨⟨q, a, b, d⟩, ho⟩ : ∃ o, o = O[p] := ⟨_, rfl⟩
            rw [← ho] at hpk r0 r1 r2 r3 hod FO
            simp only at r0 r1 r2 r3 hod
            rw [hpk] at ST
            have hmC : mC ≤ 260 := by rw [HM.out]; exact hs1
            have hww := B0.out.trans_ BC.out
            have y1 := ((bcell hww).1 _ _ hgk).trans p1
            have y2 := ((bcell hww).1 _ _ hg3).trans r0
            have y3 := ((bcell hww).1 _ _ hg3).trans r1
            have y4 := ((bcell hww).1 _ _ hg3).trans r2
            have y5 := ((bcell hww).1 _ _ hg3).trans r3
            obtain ⟨x0, x1, x2⟩ := HSH.out _ BC.out
            have i0 : (0 : Int) ≤ (t : Int) := by omega
            have i1 : (t : Int) < (k : Int) := by omega
            have i2 : (0 : Int) ≤ (p : Int) := by omega
            have i3 : (p : Int) < (n3 : Int) := by have := N3.out; omega
            have wj : IntKind.i64.wrap ((k : Int) - 1) = (k : Int) - 1 := IntWalk.i64_in _ (by omega)
            clear hC ho hpk hck hc3 p1 r0 r1 r2 r3 hKp hbl hww
            go_wp2_with fail
            refine (opOf_any ⟨q, a, b, d⟩ _).mono ?_
            rintro e w3 ⟨⟨x, rfl, hx⟩, hb3⟩
            have BZ := Lib.hid hb3
            obtain rfl : x = opV ⟨q, a, b, d⟩ := hx FO.out
            rw [FO.out]
            obtain ⟨x, hx9⟩ : ∃ x, x = opV ⟨q, a, b, d⟩ := ⟨_, rfl⟩
            rw [← hx9]
            have HX := Lib.hid hx9
            clear hx hb3 x0 x1 x2 y1 y2 y3 y4 y5 hx9
            by_cases e1 : t + 1 = K.length
            · rw [if_pos e1] at ST
              have b1 : ((t : Int) == (k : Int) - 1) = true := by have := HKL.out; simp; omega
              clear e1
              go_wp2_with fail
              rw [HX.out]
              refine (tornTo_any ⟨q, a, b, d⟩ FO.out m hm0 hod _).mono ?_
              rintro e w4 ⟨rfl, hb4⟩
              have BZ' := Lib.hid (BZ.out.trans_ hb4)
              clear BZ
              have BZ := BZ'
              clear BZ' hb4 HX
              have hts := tornO_size ⟨q, a, b, d⟩ m
              simp only at hts
              have HFT := Lib.hid (tornO_form (m := m) FO.out)
              obtain ⟨z, hz⟩ : ∃ z, z = tornO ⟨q, a, b, d⟩ m := ⟨_, rfl⟩
              rw [← hz] at ST HFT hts ⊢
              obtain ⟨y, hy⟩ : ∃ y, y = opV z := ⟨_, rfl⟩
              rw [← hy]
              have HY := Lib.hid hy
              clear hz hy wj b1
              go_wp2_with fail
              rw [HY.out]
              refine (done_any AC mC cC C HM.out z HFT.out _ (by omega) (by omega) (by first | omega | (simp only; omega)) SO.out (FC.out.bl BZ.out)).mono ?_
              rintro e w5 ⟨v5, rfl, hv5, hb5⟩
              obtain ⟨AD, cD, rfl, -, ha5, -⟩ := own_shapeF hv5
              have B5 := Lib.hid (BZ.out.trans_ hb5)
              have V5 := Lib.hid ha5
              clear hv5 hb5 ha5
              go_wp2
              go_roundw
              case rel => exact ⟨t + 1, _, cD, AD, by omega, by go_num, rfl, Lib.hid (by rw [ST.out]), Lib.hid (by rw [ST.out]; exact V5.out), BC.out.trans_ B5.out⟩
              case measure => simp [intOf]; omega
            · rw [if_neg e1] at ST
              have b1 : ((t : Int) == (k : Int) - 1) = false := by have := HKL.out; simp; omega
              clear e1
              go_wp2_with fail
              rw [HX.out]
              refine (done_any AC mC cC C HM.out ⟨q, a, b, d⟩ FO.out _ (by omega) (by omega) (by first | omega | (simp only; omega)) SO.out (FC.out.bl BZ.out)).mono ?_
              rintro e w5 ⟨v5, rfl, hv5, hb5⟩
              obtain ⟨AD, cD, rfl, -, ha5, -⟩ := own_shapeF hv5
              have B5 := Lib.hid (BZ.out.trans_ hb5)
              have V5 := Lib.hid ha5
              clear hv5 hb5 ha5
              go_wp2
              go_roundw
              case rel => exact ⟨t + 1, _, cD, AD, by omega, by go_num, rfl, Lib.hid (by rw [ST.out]), Lib.hid (by rw [ST.out]; exact V5.out), BC.out.trans_ B5.out⟩
              case measure => simp [intOf]; omega
          · obtain rfl : t = k := by omega
            obtain ⟨hs1, hs2⟩ := crash_small (m := m) HRI.out (show t ≤ K.length from by have := HKL.out; omega) (.inr ⟨L1, HD.out⟩) KB.out.s3
            have CE := Lib.hid (show crashL L2 O K m = crashSt L2 O K m t from by unfold crashL; rw [← HKL.out])
            obtain ⟨C, hC⟩ : ∃ C, C = crashSt L2 O K m t := ⟨_, rfl⟩
            rw [← hC] at HM FC CE hs1 hs2
            have hmC : mC ≤ 260 := by rw [HM.out]; exact hs1
            clear hC hbl
            go_wp2_with fail
            refine (fits_any AC mC cC C HM.out _ (by omega) (by omega) FC.out).mono ?_
            rintro e w5 ⟨rfl, hb5⟩
            have B5 := Lib.hid (BC.out.trans_ hb5)
            have X5 := Lib.hid hb5
            clear hb5
            by_cases hf : fitsB C = true
            · have HFT := Lib.hid hf
              have s5 := B5.out.size
              rw [hf]
              clear hf
              go_wp2_with fail
              refine (diskWith_any AC mC cC C HM.out (by omega) _ (FC.out.bl X5.out)).mono ?_
              rintro e w6 ⟨vA, vB, vC, rfl, hI⟩
              obtain ⟨PA, PB, PC, kA, eA, kB, eB, kC, eC, ⟨rfl, rfl, rfl⟩, -⟩ := hI.opened'
              have J := Lib.hid hI
              obtain ⟨z0, z1, z2, z3⟩ := HRS.out _ (B5.out.trans_ hI.bl)
              have hsz := hI.bl.size
              have HE := Lib.hid (show crashD (L1, L2, O) K m = ((C, C, []), true) from by
                rw [crashD_yes (D := (L1, L2, O)) ⟨HD.out, HRI.out, hm0, by rw [CE.out]; exact HFT.out⟩, CE.out])
              clear hI
              go_wp2
              refine bodyPost_ret (v := .tuple #[.agg #[.slice PA kA eA, .slice PB kB eB, .slice PC kC eC], .bool true]) (by simp [results, Try.results12, go_sem, z0, z1, z2]) rfl ⟨.slice PA kA eA, .slice PB kB eB, .slice PC kC eC, by rw [HE.out], by rw [HE.out]; exact J.out.fin (B0.out.trans_ B5.out) (b := w.heap.size + 1) (by omega) (by omega) _ _ _⟩
            · have hf' : fitsB C = false := by simpa using hf
              rw [hf']
              obtain ⟨z0, z1, z2, z3⟩ := HRS.out _ B5.out
              have hsz := B5.out.size
              have J := Lib.hid (In3.start B5.out)
              have HE := Lib.hid (crashD_no (D := (L1, L2, O)) (K := K) (m := m) (fun h => absurd h.2.2.2 (by rw [CE.out, hf']; simp)))
              go_wp2
              refine bodyPost_ret (v := .tuple #[.agg #[.slice none 0 0, .slice none 0 0, .slice none 0 0], .bool false]) (by simp [results, Try.results12, go_sem, z0, z1, z2]) rfl ⟨nilV, nilV, nilV, by rw [HE.out]; rfl, by rw [HE.out]; exact (In3.start (Bl.refl _)).fin (B0.out.trans_ B5.out) (b := w.heap.size + 1) (by omega) (by omega) _ _ _⟩
    · have hr' : riseB n3 (-1) K = false := by simpa using hr
      have HR := Lib.hid hr'
      clear hr hr'
      go_enter Try.func12, Try.ntmps12
      go_wp2_with fail
      rw [← hw0]
      refine (implOk_dk KB.out _ (KH.out.bl B0.out)).mono ?_
      rintro e w1 ⟨rfl, hb1⟩
      have I1 := Lib.hid hb1
      obtain ⟨x0, x1, x2⟩ := HSH.out _ I1.out
      rw [HD.out]
      clear hb1 hw0
      go_wp2_with fail
      refine (arePlaces_any AK k cK K HKL.out n3 (by omega) _ (by omega) (KK.out.bl (B0.out.trans_ I1.out))).mono ?_
      rintro e w2 ⟨rfl, hb2⟩
      have I2 := Lib.hid (I1.out.trans_ hb2)
      clear hb2 x0 x1 x2
      rw [HR.out]
      obtain ⟨z0, z1, z2, z3⟩ := HRS.out _ I2.out
      have hsz := I2.out.size
      have J := Lib.hid (In3.start I2.out)
      have HE := Lib.hid (crashD_no (D := (L1, L2, O)) (K := K) (m := m) (fun h => absurd h.2.1 (by rw [show (L1, L2, O).2.2.length = n3 from N3.out.symm, HR.out]; simp)))
      go_wp2
      refine bodyPost_ret (v := .tuple #[.agg #[.slice none 0 0, .slice none 0 0, .slice none 0 0], .bool false]) (by simp [results, Try.results12, go_sem, z0, z1, z2]) rfl ⟨nilV, nilV, nilV, by rw [HE.out]; rfl, by rw [HE.out]; exact (In3.start (Bl.refl _)).fin (B0.out.trans_ I2.out) (b := w.heap.size + 1) (by omega) (by omega) _ _ _⟩
  · have hd' : diskB (L1, L2, O) = false := by simpa using hd
    have HD := Lib.hid hd'
    clear hd hd'
    go_enter Try.func12, Try.ntmps12
    go_wp2_with fail
    rw [← hw0]
    refine (implOk_dk KB.out _ (KH.out.bl B0.out)).mono ?_
    rintro e w1 ⟨rfl, hb1⟩
    have I1 := Lib.hid hb1
    rw [HD.out]
    clear hb1 hw0
    obtain ⟨z0, z1, z2, z3⟩ := HRS.out _ I1.out
    have hsz := I1.out.size
    have J := Lib.hid (In3.start I1.out)
    have HE := Lib.hid (crashD_no (D := (L1, L2, O)) (K := K) (m := m) (fun h => absurd h.1 (by rw [HD.out]; simp)))
    go_wp2
    refine bodyPost_ret (v := .tuple #[.agg #[.slice none 0 0, .slice none 0 0, .slice none 0 0], .bool false]) (by simp [results, Try.results12, go_sem, z0, z1, z2]) rfl ⟨nilV, nilV, nilV, by rw [HE.out]; rfl, by rw [HE.out]; exact (In3.start (Bl.refl _)).fin (B0.out.trans_ I1.out) (b := w.heap.size + 1) (by omega) (by omega) _ _ _⟩

end Go.Proofs.Ytgfmgmcpfefmkaa

set_option linter.unusedSimpArgs false
set_option linter.unusedVariables false
namespace Go.Proofs.Ytgfmgmcpfefmkaa
open Go.RowKit

theorem crashD_len (D : Dk) (K : List Int) (m : Int) : (crashD D K m).1.1.length ≤ 1048576 ∧ (crashD D K m).1.2.1.length ≤ 1048576 ∧ (crashD D K m).1.2.2.length ≤ 1048576 := by
  unfold crashD
  split
  · rename_i h
    have h1 := h.2.2.2
    unfold fitsB at h1
    simp only [Bool.and_eq_true, decide_eq_true_eq] at h1
    exact ⟨by show (crashL _ _ _ _).length ≤ _; omega, by show (crashL _ _ _ _).length ≤ _; omega, by simp⟩
  · simp

end Go.Proofs.Ytgfmgmcpfefmkaa

set_option linter.unusedSimpArgs false
set_option linter.unusedVariables false
namespace Go.Proofs.Ytgfmgmcpfefmkaa
open Go.ChangeShapes Go.WideShapes Go.ChangeAt Go.RowKit

set_option maxHeartbeats 400000 in
theorem toInt64S_row (A : Option Addr) (n c : Nat) (V : List Int) (hn : n = V.length) (w : World) (hm : n ≤ 1048576) (H1 : IntsAt w w.heap.size A V) :
    Calls Try.prog 11 #[.slice A n c] w fun e w' => e = .returned (.slice (some ⟨w.heap.size, 0, none⟩) n n) ∧ IntsAt w' w'.heap.size (some ⟨w.heap.size, 0, none⟩) V ∧ Bl w w' ∧ RowsW 2 1 w' (some ⟨w.heap.size, 0, none⟩) n ∧ w.heap.size < w'.heap.size := by
  have K1 := Lib.hid H1
  have HN := Lib.hid hn
  clear H1 hn
  have hmk := make_nums n hm
  go_enter Try.func11, Try.ntmps11
  go_wp2
  clear hmk
  go_loopw [4] (fun i wr => ∃ k : Nat, k ≤ n ∧ i = .int .i64 k ∧ Bl w wr ∧ ∃ f, wr.rowIs w.heap.size 2 n f ∧ ∀ j (h : j < k) (h' : j < V.length), f j = .int .i64 V[j]) (fun i _ => n - (intOf i).toNat)
  case atStart => exact ⟨0, by omega, rfl, (by repeat' (first | exact Bl.refl _ | with_reducible assumption | with_reducible refine Bl.drew_ ?_ | with_reducible refine Bl.drewN_ ?_ _ | with_reducible refine Bl.alloc_ ?_ _ | with_reducible refine Bl.trans_ ?_ (by assumption) | with_reducible refine Bl.trans_ ?_ (And.left (by assumption)))), _, mk1_row _ _ _, fun j h => absurd h (by omega)⟩
  case round =>
    obtain ⟨k, hk, rfl, hbl, f, hrow, hf⟩ := hrel
    by_cases hlt : k < n
    · have hkl : k < V.length := by have := HN.out; omega
      obtain ⟨g1, o1, rfl, hg1, hc1⟩ := K1.out.cell (by omega)
      have p1 := hc1 k hkl
      rw [← (bcell hbl).1 _ _ hg1] at p1
      have F := Lib.hid hf
      have R := Lib.hid hrow
      clear hf hrow hc1
      have z1 := R.out.cell (i := k) (by omega)
      have y1 := R.out.frozen k
      have i0 : (0 : Int) ≤ (k : Int) := by omega
      have i1 : (k : Int) < (n : Int) := by omega
      generalize hv : V[k] = x at p1
      go_wp2
      go_roundw
      case rel =>
        refine ⟨k + 1, by omega, by go_num, Bl.set_ hbl (Nat.le_refl _) _, _, R.out.set k _, fun j hj hj' => ?_⟩
        rcases Nat.lt_or_ge j k with h | h
        · rw [if_neg (by omega)]
          exact F.out j h hj'
        · have e : j = k := by omega
          subst e
          rw [if_pos rfl, hv]
      case measure => simp [intOf]; omega
    · go_wp2
      go_ret
      have e : k = n := by omega
      subst e
      refine ⟨rfl, fun h0 => ⟨w.heap.size, 0, rfl, hrow.lt, fun j hj => ?_⟩, hbl, fun _ => ⟨w.heap.size, 0, _, f, rfl, by omega, hrow⟩, hrow.lt⟩
      rw [csI_len] at hj
      have hjk : j < k := by have := HN.out; omega
      rw [csI_at, ← hf j hjk hj, Nat.zero_add]
      exact hrow.cell hjk

end Go.Proofs.Ytgfmgmcpfefmkaa
