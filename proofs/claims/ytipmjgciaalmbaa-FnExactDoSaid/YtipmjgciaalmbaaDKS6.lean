/-
  What is proved here: the document's question whether a disk is right. No conditions beyond those that each theorem states.
-/
import Derived.Test.YtipmjgciaalmbaaDKS5
set_option linter.unusedSimpArgs false
set_option linter.unusedVariables false
namespace Go.Proofs.Ytipmjgciaalmbaa
open Go.RowKit

theorem files_parts {L : List Fl} (h : filesB L = true) : L.length ≤ 60 ∧ sumL L ≤ 200000 ∧ ordB L = true := by
  unfold filesB fitsB at h
  simp only [Bool.and_eq_true, decide_eq_true_eq] at h
  exact ⟨h.1.1, h.1.2, h.2⟩
theorem files_fits {L : List Fl} (h : ordB L = true) : filesB L = fitsB L := by unfold filesB; rw [h, Bool.and_true]
theorem good_drop {O : List Dp} {L : List Fl} {k : Nat} (hk : k < O.length) : goodB L (O.drop k) = (formB O[k] && foundB L O[k] && fitsB (doL L O[k]) && goodB (doL L O[k]) (O.drop (k + 1))) := by
  rw [List.drop_eq_getElem_cons hk]
  rfl
theorem all_drop {O : List Dp} {L : List Fl} {k : Nat} (hk : k < O.length) : doAll L (O.drop k) = doAll (doL L O[k]) (O.drop (k + 1)) := by
  rw [List.drop_eq_getElem_cons hk]
  rfl
/-- The files behind the first ops, which are done rightly so far. -/
def OpsSt (L : List Fl) (O : List Dp) (k : Nat) (C : List Fl) : Prop := goodB L O = goodB C (O.drop k) ∧ doAll L O = doAll C (O.drop k) ∧ filesB C = true
theorem OpsSt.zero {L : List Fl} (O : List Dp) (h : filesB L = true) : OpsSt L O 0 L := ⟨rfl, rfl, h⟩
theorem OpsSt.next {L : List Fl} {O : List Dp} {k : Nat} {C : List Fl} (h : OpsSt L O k C) (hk : k < O.length) (h1 : formB O[k] = true) (h2 : foundB C O[k] = true) (h3 : fitsB (doL C O[k]) = true) : OpsSt L O (k + 1) (doL C O[k]) := by
  refine ⟨?_, ?_, ?_⟩
  · rw [h.1, good_drop hk, h1, h2, h3]; rfl
  · rw [h.2.1, all_drop hk]
  · rw [files_fits (do_files (files_parts h.2.2).2.2 h1)]; exact h3
theorem OpsSt.bad {L : List Fl} {O : List Dp} {k : Nat} {C : List Fl} (h : OpsSt L O k C) (hk : k < O.length) (hb : (formB O[k] && foundB C O[k] && fitsB (doL C O[k])) = false) (L1 : List Fl) : diskB (L1, L, O) = false := by
  have e : goodB L O = false := by rw [h.1, good_drop hk, hb]; rfl
  unfold diskB
  simp only
  rw [e]
  simp
theorem OpsSt.last {L : List Fl} {O : List Dp} {C : List Fl} (h : OpsSt L O O.length C) (hL : filesB L = true) (hO : O.length ≤ 200) (L1 : List Fl) : diskB (L1, L, O) = sameL C L1 := by
  obtain ⟨h1, h2, h3⟩ := h
  rw [List.drop_length] at h1 h2
  unfold diskB
  simp only
  rw [hL, h1, h2, decide_eq_true hO]
  rfl
theorem disk_no1 {L1 L2 : List Fl} {O : List Dp} (h : filesB L1 = false) : diskB (L1, L2, O) = false := by
  cases e : diskB (L1, L2, O)
  · rfl
  · have := disk_live e
    rw [h] at this
    exact absurd this (by simp)
theorem disk_no2 {L1 L2 : List Fl} {O : List Dp} (h : filesB L2 = false) : diskB (L1, L2, O) = false := by
  unfold diskB
  simp only
  rw [h]; rfl
theorem disk_no3 {L1 L2 : List Fl} {O : List Dp} (h : ¬ O.length ≤ 200) : diskB (L1, L2, O) = false := by
  unfold diskB
  simp only
  rw [decide_eq_false h]; simp
/-- The cells of a disk. -/
def dkV (A1 : Option Addr) (n1 c1 : Nat) (A2 : Option Addr) (n2 c2 : Nat) (A3 : Option Addr) (n3 c3 : Nat) : Array Value := #[.slice A1 n1 c1, .slice A2 n2 c2, .slice A3 n3 c3]

set_option maxRecDepth 100000 in
set_option maxHeartbeats 4000000 in
theorem specDiskOk_any (A1 A2 A3 : Option Addr) (n1 c1 n2 c2 n3 c3 : Nat) (L1 L2 : List Fl) (O : List Dp) (hn1 : n1 = L1.length) (hn2 : n2 = L2.length) (hn3 : n3 = O.length) (w : World)
    (hm1 : n1 ≤ 1048576) (hm2 : n2 ≤ 1048576) (hm3 : n3 ≤ 1048576) (hs1 : sumL L1 ≤ 1048576) (hs2 : sumL L2 ≤ 1048576) (hs3 : szL szDp O ≤ 1048576) (H1 : FilesAt w w.heap.size A1 L1) (H2 : FilesAt w w.heap.size A2 L2) (H3 : OpsAt w w.heap.size A3 O) :
    Calls Try.prog 14 #[.agg #[.slice A1 n1 c1, .slice A2 n2 c2, .slice A3 n3 c3]] w fun e w' => e = .returned (.bool (diskB (L1, L2, O))) ∧ Bl w w' := by
  have K1 := Lib.hid H1
  have K2 := Lib.hid H2
  have K3 := Lib.hid H3
  have N1 := Lib.hid hn1
  have N2 := Lib.hid hn2
  have N3 := Lib.hid hn3
  have S3 := Lib.hid hs3
  clear H1 H2 H3 hn1 hn2 hn3 hs3
  by_cases h1 : filesB L1 = true
  · by_cases h2 : filesB L2 = true
    · by_cases h3 : (200 : Int) < (n3 : Int)
      · go_enter Try.func14, Try.ntmps14
        go_wp2_with fail
        refine (l15Files_any A1 n1 c1 L1 N1.out _ (by omega) (by omega) (K1.out.bl (by repeat' (first | exact Bl.refl _ | with_reducible assumption | with_reducible refine Bl.drew_ ?_ | with_reducible refine Bl.drewN_ ?_ _ | with_reducible refine Bl.alloc_ ?_ _ | with_reducible refine Bl.trans_ ?_ (by assumption) | with_reducible refine Bl.trans_ ?_ (And.left (by assumption)))))).mono ?_
        rintro e w1 ⟨rfl, hb1⟩
        obtain ⟨q0, q1, q2⟩ := box3 hb1
        have B1 := Lib.hid ((Bl.alloc_ (Bl.refl w) _).trans_ hb1)
        rw [h1]
        go_wp2_with fail
        refine (l15Files_any A2 n2 c2 L2 N2.out _ (by omega) (by omega) (K2.out.bl B1.out)).mono ?_
        rintro e w2 ⟨rfl, hb2⟩
        obtain ⟨q0, q1, q2⟩ := box3 (hb1.trans_ hb2)
        rw [h2]
        go_wp2
        go_ret
        exact ⟨ret_bool (disk_no3 (by have := N3.out; omega)).symm, B1.out.trans_ hb2⟩
      · have hO : O.length ≤ 200 := by have := N3.out; omega
        have HL2 := Lib.hid h2
        have h3' : ¬ (200 : Int) < (n3 : Int) := h3
        go_enter Try.func14, Try.ntmps14
        go_wp2_with fail
        refine (l15Files_any A1 n1 c1 L1 N1.out _ (by omega) (by omega) (K1.out.bl (by repeat' (first | exact Bl.refl _ | with_reducible assumption | with_reducible refine Bl.drew_ ?_ | with_reducible refine Bl.drewN_ ?_ _ | with_reducible refine Bl.alloc_ ?_ _ | with_reducible refine Bl.trans_ ?_ (by assumption) | with_reducible refine Bl.trans_ ?_ (And.left (by assumption)))))).mono ?_
        rintro e w1 ⟨rfl, hb1⟩
        obtain ⟨q0, q1, q2⟩ := box3 hb1
        have B1 := Lib.hid ((Bl.alloc_ (Bl.refl w) _).trans_ hb1)
        rw [h1]
        go_wp2_with fail
        refine (l15Files_any A2 n2 c2 L2 N2.out _ (by omega) (by omega) (K2.out.bl B1.out)).mono ?_
        rintro e w2 ⟨rfl, hb2⟩
        have X2 := Lib.hid (hb1.trans_ hb2)
        obtain ⟨q0, q1, q2⟩ := box3 X2.out
        rw [h2]
        clear hb1 hb2 B1
        go_wp2
        go_loopw [3, 4] (fun v i wr => ∃ (k m c : Nat) (A : Option Addr) (C : List Fl), k ≤ n3 ∧ i = .int .i64 k ∧ v = .slice A m c ∧ Hid (m = C.length) ∧ Hid (FilesAt wr wr.heap.size A C) ∧ Hid (OpsSt L2 O k C) ∧ Bl (w.alloc (.cells #[.slice A1 n1 c1, .slice A2 n2 c2, .slice A3 n3 c3] 31)) wr) (fun _ i _ => n3 - (intOf i).toNat)
        case atStart => exact ⟨0, n2, c2, A2, L2, by omega, rfl, rfl, N2, Lib.hid (K2.out.bl ((Bl.alloc_ (Bl.refl w) _).trans_ X2.out)), Lib.hid (OpsSt.zero O HL2.out), X2.out⟩
        case round =>
          obtain ⟨k, m, c, A, C, hk, rfl, rfl, HM, HF, HO, hbl⟩ := hrel
          obtain ⟨x0, x1, x2⟩ := box3 hbl
          have BW := Lib.hid hbl
          have BX := Lib.hid ((Bl.alloc_ (Bl.refl w) _).trans_ hbl)
          by_cases hlt : k < n3
          · have hkl : k < O.length := by have := N3.out; omega
            obtain ⟨g3, o3, rfl, hg3, hc3⟩ := K3.out.cell (by omega)
            obtain ⟨p0, p1, p2, p3⟩ := hc3 k hkl
            have hsz := szL_at szDp O k hkl
            have hs3 := S3.out
            obtain ⟨o, ho⟩ : ∃ o, o = O[k] := ⟨_, rfl⟩
            rw [← ho] at p0 p1 p2 p3 hsz
            have HOO := Lib.hid ho
            have hds : o.data.size ≤ 1048576 := by have e : szDp o = o.name.size + o.to.size + o.data.size := rfl; omega
            have HC := Lib.hid (show ∀ wx, Bl w wx → wx.cell? ⟨g3, o3 + k * 4, none⟩ = some (.int .i64 o.kind) ∧ wx.cell? ⟨g3, o3 + k * 4 + 1, none⟩ = some (.string o.name) ∧ wx.cell? ⟨g3, o3 + k * 4 + 2, none⟩ = some (.string o.to) ∧ wx.cell? ⟨g3, o3 + k * 4 + 3, none⟩ = some (.string o.data) from fun wx hb =>
              ⟨((bcell hb).1 _ _ hg3).trans p0, ((bcell hb).1 _ _ hg3).trans p1, ((bcell hb).1 _ _ hg3).trans p2, ((bcell hb).1 _ _ hg3).trans p3⟩)
            obtain ⟨y0, y1, y2, y3⟩ := HC.out wr BX.out
            obtain ⟨f1, f2, f3⟩ := files_parts HO.out.2.2
            have hml : m ≤ 60 := by rw [HM.out]; exact f1
            have i0 : (0 : Int) ≤ (k : Int) := by omega
            have i1 : (k : Int) < (n3 : Int) := by omega
            have SO := Lib.hid (ord_sorted f3)
            have hdl := do_len C o
            have hdsm := do_sum C o
            have HFF := Lib.hid (fun h : formB o = true => files_fits (do_files f3 h))
            clear hc3 p0 p1 p2 p3 ho hsz hs3 f3 hbl
            go_wp2_with fail
            refine (l15Do_any A m c C HM.out o _ (by omega) (by omega) (by omega) SO.out HF.out).mono ?_
            rintro e w3 ⟨v3, rfl, hv3, hb3⟩
            obtain ⟨A', c', rfl, hc', ha', -⟩ := own_shapeF hv3
            have F3 := Lib.hid ha'
            have X3 := Lib.hid (BW.out.trans_ hb3)
            have Y3 := Lib.hid (BX.out.trans_ hb3)
            obtain ⟨x0, x1, x2⟩ := box3 X3.out
            obtain ⟨y0, y1, y2, y3⟩ := HC.out w3 Y3.out
            obtain ⟨D, hD⟩ : ∃ D, D = doL C o := ⟨_, rfl⟩
            rw [← hD] at hdl hdsm hc' F3 HFF ⊢
            have HD := Lib.hid hD
            obtain ⟨m', hm'⟩ : ∃ m', m' = D.length := ⟨_, rfl⟩
            rw [← hm'] at hdl hc' ⊢
            have HM' := Lib.hid hm'
            clear hv3 ha' hD hm' hb3
            by_cases b1 : foundB C o = true
            · rw [b1]
              go_wp2_with fail
              refine (l15Form_any o _).mono ?_
              rintro e w4 ⟨rfl, hb4⟩
              have X4 := Lib.hid (X3.out.trans_ hb4)
              have Y4 := Lib.hid (Y3.out.trans_ hb4)
              have F4 := Lib.hid (F3.out.bl hb4)
              obtain ⟨x0, x1, x2⟩ := box3 X4.out
              clear hb4 y0 y1 y2 y3
              by_cases b2 : formB o = true
              · rw [b2]
                go_wp2_with fail
                refine (l15Files_any A' m' c' D HM'.out _ (by omega) (by omega) F4.out).mono ?_
                rintro e w5 ⟨rfl, hb5⟩
                have X5 := Lib.hid (X4.out.trans_ hb5)
                have Y5 := Lib.hid (Y4.out.trans_ hb5)
                have F5 := Lib.hid (F4.out.bl hb5)
                rw [HFF.out b2]
                clear hb5
                by_cases b3 : fitsB D = true
                · have HB3 := Lib.hid b3
                  have HB1 := Lib.hid b1
                  have HB2 := Lib.hid b2
                  rw [b3]
                  clear b1 b2 b3
                  go_wp2
                  go_roundw
                  case rel =>
                    refine ⟨k + 1, m', c', A', D, by omega, by go_num, rfl, HM', F5, Lib.hid ?_, X5.out⟩
                    have := HO.out.next hkl (by rw [← HOO.out]; exact HB2.out) (by rw [← HOO.out]; exact HB1.out) (by rw [← HOO.out, ← HD.out]; exact HB3.out)
                    rwa [← HOO.out, ← HD.out] at this
                  case measure => simp [intOf]; omega
                · have b3' : fitsB D = false := by simpa using b3
                  rw [b3']
                  go_wp2
                  go_ret
                  exact ⟨ret_bool (HO.out.bad hkl (by rw [← HOO.out, ← HD.out, b3', Bool.and_false]) L1).symm, Y5.out⟩
              · have b2' : formB o = false := by simpa using b2
                rw [b2']
                go_wp2
                go_ret
                exact ⟨ret_bool (HO.out.bad hkl (by rw [← HOO.out, b2']; rfl) L1).symm, Y4.out⟩
            · have b1' : foundB C o = false := by simpa using b1
              rw [b1']
              go_wp2
              go_ret
              exact ⟨ret_bool (HO.out.bad hkl (by rw [← HOO.out, b1']; simp) L1).symm, Y3.out⟩
          · obtain rfl : k = n3 := by omega
            obtain ⟨f1, f2, f3⟩ := files_parts HO.out.2.2
            have hml : m ≤ 60 := by rw [HM.out]; exact f1
            go_wp2_with fail
            refine (l15Same_any A A1 m n1 c c1 C L1 HM.out N1.out _ (by omega) (by omega) HF.out (K1.out.bl BX.out)).mono ?_
            rintro e w3 ⟨rfl, hb3⟩
            have e : diskB (L1, L2, O) = sameL C L1 := OpsSt.last (by rw [← N3.out]; exact HO.out) HL2.out hO L1
            have E := Lib.hid e
            clear e
            go_wp2
            go_ret
            exact ⟨ret_bool E.out.symm, BX.out.trans_ hb3⟩
    · have h2' : filesB L2 = false := by simpa using h2
      go_enter Try.func14, Try.ntmps14
      go_wp2_with fail
      refine (l15Files_any A1 n1 c1 L1 N1.out _ (by omega) (by omega) (K1.out.bl (by repeat' (first | exact Bl.refl _ | with_reducible assumption | with_reducible refine Bl.drew_ ?_ | with_reducible refine Bl.drewN_ ?_ _ | with_reducible refine Bl.alloc_ ?_ _ | with_reducible refine Bl.trans_ ?_ (by assumption) | with_reducible refine Bl.trans_ ?_ (And.left (by assumption)))))).mono ?_
      rintro e w1 ⟨rfl, hb1⟩
      obtain ⟨q0, q1, q2⟩ := box3 hb1
      have B1 := Lib.hid ((Bl.alloc_ (Bl.refl w) _).trans_ hb1)
      rw [h1]
      go_wp2_with fail
      refine (l15Files_any A2 n2 c2 L2 N2.out _ (by omega) (by omega) (K2.out.bl B1.out)).mono ?_
      rintro e w2 ⟨rfl, hb2⟩
      rw [h2']
      go_wp2
      go_ret
      exact ⟨ret_bool (disk_no2 h2').symm, B1.out.trans_ hb2⟩
  · have h1' : filesB L1 = false := by simpa using h1
    go_enter Try.func14, Try.ntmps14
    go_wp2_with fail
    refine (l15Files_any A1 n1 c1 L1 N1.out _ (by omega) (by omega) (K1.out.bl (by repeat' (first | exact Bl.refl _ | with_reducible assumption | with_reducible refine Bl.drew_ ?_ | with_reducible refine Bl.drewN_ ?_ _ | with_reducible refine Bl.alloc_ ?_ _ | with_reducible refine Bl.trans_ ?_ (by assumption) | with_reducible refine Bl.trans_ ?_ (And.left (by assumption)))))).mono ?_
    rintro e w1 ⟨rfl, hb1⟩
    rw [h1']
    go_wp2
    go_ret
    exact ⟨ret_bool (disk_no1 h1').symm, (Bl.alloc_ (Bl.refl w) _).trans_ hb1⟩

end Go.Proofs.Ytipmjgciaalmbaa
