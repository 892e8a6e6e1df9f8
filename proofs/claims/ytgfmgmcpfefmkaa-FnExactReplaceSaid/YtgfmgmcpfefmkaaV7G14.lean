/-
  What is proved here: plain facts on ops that are done one behind the other, and on what a Replace is made of; a box that holds a disk, and what is put into it; the document's way of doing an op to a right disk; what the document leaves when a file is put in the place of another. No conditions beyond those that each theorem states.
-/
import Derived.Test.YtgfmgmcpfefmkaaV7DKE2
import Derived.Test.YtgfmgmcpfefmkaaV7G11
import Derived.Test.YtgfmgmcpfefmkaaV7G12
set_option linter.unusedSimpArgs false
set_option linter.unusedVariables false
namespace Go.Proofs.Ytgfmgmcpfefmkaa
open Go.RowKit

theorem good_snoc : ∀ {O : List Dp} {L : List Fl} {o : Dp}, goodB L O = true → formB o = true → foundB (doAll L O) o = true → fitsB (doL (doAll L O) o) = true → goodB L (O ++ [o]) = true
  | [], L, o, _, h1, h2, h3 => by
    have h2' : foundB L o = true := h2
    have h3' : fitsB (doL L o) = true := h3
    simp [goodB, h1, h2', h3']
  | x :: r, L, o, hg, h1, h2, h3 => by
    have e : goodB L (x :: r) = (formB x && foundB L x && fitsB (doL L x) && goodB (doL L x) r) := rfl
    rw [e] at hg
    simp only [Bool.and_eq_true] at hg
    have e2 : goodB L (x :: r ++ [o]) = (formB x && foundB L x && fitsB (doL L x) && goodB (doL L x) (r ++ [o])) := rfl
    rw [e2]
    simp only [Bool.and_eq_true]
    exact ⟨hg.1, good_snoc hg.2 h1 h2 h3⟩
/-- An op that is done to a right disk leaves a right one. -/
theorem act_ok {L1 L2 : List Fl} {O : List Dp} {o : Dp} (h : diskB (L1, L2, O) = true) (hc : (actD (L1, L2, O) o).2 = 0) :
    formB o = true ∧ foundB L1 o = true ∧ fitsB (doL L1 o) = true ∧ O.length ≠ 200 ∧ actD (L1, L2, O) o = ((doL L1 o, L2, O ++ [o]), 0) ∧ diskB (doL L1 o, L2, O ++ [o]) = true := by
  obtain ⟨p1, p2, p3, p4⟩ := disk_parts h
  have e : actD (L1, L2, O) o = if formB o = false then ((L1, L2, O), 2) else if foundB L1 o = false then ((L1, L2, O), 3) else if O.length = 200 ∨ fitsB (doL L1 o) = false then ((L1, L2, O), 4) else ((doL L1 o, L2, O ++ [o]), 0) := rfl
  rw [e] at hc ⊢
  by_cases h1 : formB o = false
  · rw [if_pos h1] at hc; exact absurd hc (by simp)
  · rw [if_neg h1] at hc ⊢
    by_cases h2 : foundB L1 o = false
    · rw [if_pos h2] at hc; exact absurd hc (by simp)
    · rw [if_neg h2] at hc ⊢
      by_cases h3 : O.length = 200 ∨ fitsB (doL L1 o) = false
      · rw [if_pos h3] at hc; exact absurd hc (by simp)
      · rw [if_neg h3]
        have k1 : formB o = true := by simpa using h1
        have k2 : foundB L1 o = true := by simpa using h2
        have k3 : O.length ≠ 200 := fun c => h3 (.inl c)
        have k4 : fitsB (doL L1 o) = true := by
          cases hf : fitsB (doL L1 o)
          · exact absurd (.inr hf) h3
          · rfl
        refine ⟨k1, k2, k4, k3, rfl, ?_⟩
        have g : goodB L2 (O ++ [o]) = true := good_snoc p3 k1 (by rw [p4]; exact k2) (by rw [p4]; exact k4)
        have d : doAll L2 (O ++ [o]) = doL L1 o := by unfold doAll at p4 ⊢; rw [List.foldl_append, p4]; rfl
        show (filesB L2 && decide ((O ++ [o]).length ≤ 200) && goodB L2 (O ++ [o]) && sameL (doAll L2 (O ++ [o])) (doL L1 o)) = true
        rw [p1, g, d, (sameL_iff _ _).2 rfl]
        simp
        omega
/-- Ops that are done one behind the other to the disk `now`; D, where one cannot be done. -/
def runD (D : Dk) : Dk → List Dp → Dk × Int
  | now, [] => (now, 0)
  | now, o :: r => if (actD now o).2 = 0 then runD D (actD now o).1 r else (D, (actD now o).2)
theorem runD_yes {D now : Dk} {o : Dp} {r : List Dp} (h : (actD now o).2 = 0) : runD D now (o :: r) = runD D (actD now o).1 r := if_pos h
theorem runD_no {D now : Dk} {o : Dp} {r : List Dp} (h : (actD now o).2 ≠ 0) : runD D now (o :: r) = (D, (actD now o).2) := if_neg h
def newN (nm : ByteArray) : ByteArray := nm ++ ⟨#[46, 110, 101, 119]⟩
def opsTwo (nm d : ByteArray) : List Dp := [⟨1, newN nm, ⟨#[]⟩, d⟩, ⟨2, newN nm, nm, ⟨#[]⟩⟩]
def replO (L : List Fl) (nm d : ByteArray) : List Dp := if hasL L (newN nm) = true then ⟨3, newN nm, ⟨#[]⟩, ⟨#[]⟩⟩ :: opsTwo nm d else opsTwo nm d
theorem replO_yes {L : List Fl} {nm d : ByteArray} (h : hasL L (newN nm) = true) : replO L nm d = ⟨3, newN nm, ⟨#[]⟩, ⟨#[]⟩⟩ :: opsTwo nm d := if_pos h
theorem replO_no {L : List Fl} {nm d : ByteArray} (h : hasL L (newN nm) = false) : replO L nm d = opsTwo nm d := if_neg (by rw [h]; simp)
theorem replO_len (L : List Fl) (nm d : ByteArray) : 2 ≤ (replO L nm d).length ∧ (replO L nm d).length ≤ 3 := by
  unfold replO
  split <;> simp [opsTwo]
theorem replO_size {L : List Fl} {nm d : ByteArray} {B : Nat} (hd : d.size ≤ B) : ∀ o ∈ replO L nm d, o.data.size ≤ B := by
  intro o ho
  have h0 : (⟨#[]⟩ : ByteArray).size = 0 := rfl
  unfold replO opsTwo at ho
  split at ho
  · simp at ho
    rcases ho with rfl | rfl | rfl
    · show (⟨#[]⟩ : ByteArray).size ≤ B; omega
    · exact hd
    · show (⟨#[]⟩ : ByteArray).size ≤ B; omega
  · simp at ho
    rcases ho with rfl | rfl
    · exact hd
    · show (⟨#[]⟩ : ByteArray).size ≤ B; omega
/-- A disk with a file put in the place of another, and what is told of it. -/
def replD (D : Dk) (nm d : ByteArray) : Dk × Int := if diskB D = true then runD D D (replO D.1 nm d) else (([], [], []), 1)
theorem replD_yes {D : Dk} (h : diskB D = true) (nm d : ByteArray) : replD D nm d = runD D D (replO D.1 nm d) := if_pos h
theorem replD_no {D : Dk} (h : diskB D = false) (nm d : ByteArray) : replD D nm d = (([], [], []), 1) := if_neg (by rw [h]; simp)
theorem run_len (D : Dk) (hD : D.1.length ≤ 1048576 ∧ D.2.1.length ≤ 1048576 ∧ D.2.2.length ≤ 1048576) : ∀ (r : List Dp) (now : Dk), diskB now = true → (runD D now r).1.1.length ≤ 1048576 ∧ (runD D now r).1.2.1.length ≤ 1048576 ∧ (runD D now r).1.2.2.length ≤ 1048576
  | [], now, h => by
    have a := (files_parts (disk_live h)).1
    obtain ⟨L1, L2, O⟩ := now
    obtain ⟨b, c, -⟩ := disk_parts h
    have b := (files_parts b).1
    simp only at a
    exact ⟨(show L1.length ≤ 1048576 from by omega), (show L2.length ≤ 1048576 from by omega), (show O.length ≤ 1048576 from by omega)⟩
  | o :: r, now, h => by
    obtain ⟨L1, L2, O⟩ := now
    by_cases hc : (actD (L1, L2, O) o).2 = 0
    · rw [runD_yes hc]
      obtain ⟨-, -, -, -, e, k⟩ := act_ok h hc
      rw [e]
      exact run_len D hD r _ k
    · rw [runD_no hc]
      exact hD
theorem replD_len (D : Dk) (nm d : ByteArray) (hD : D.1.length ≤ 1048576 ∧ D.2.1.length ≤ 1048576 ∧ D.2.2.length ≤ 1048576) : (replD D nm d).1.1.length ≤ 1048576 ∧ (replD D nm d).1.2.1.length ≤ 1048576 ∧ (replD D nm d).1.2.2.length ≤ 1048576 := by
  unfold replD
  split
  · rename_i h
    exact run_len D hD _ D h
  · exact ⟨by simp, by simp, by simp⟩

end Go.Proofs.Ytgfmgmcpfefmkaa

set_option linter.unusedSimpArgs false
set_option linter.unusedVariables false
namespace Go.Proofs.Ytgfmgmcpfefmkaa
open Go.RowKit

/-- A box that holds three values, and that can be written. -/
structure By (w : World) (b : Nat) (x y z : Value) : Prop where
  bx : Bx w b x y z
  fr : ∀ o, w.frozen? ⟨b, o, none⟩ = false
theorem By.bl {w w' : World} {b : Nat} {x y z : Value} (h : By w b x y z) (hb : Bl w w') : By w' b x y z := ⟨h.bx.bl hb, fun o => ((bcell hb).2 _ _ h.bx.lt).trans (h.fr o)⟩
theorem By.new (w : World) (x y z : Value) : By (w.alloc (.cells #[x, y, z] 31)) w.heap.size x y z := ⟨Bx.new w _ _ _ _, fun o => by simp [go_sem]⟩
theorem By.put {w : World} {b : Nat} {x y z : Value} (h : By w b x y z) (x' y' z' : Value) : By (((w.setCell ⟨b, 0, none⟩ x').setCell ⟨b, 1, none⟩ y').setCell ⟨b, 2, none⟩ z') b x' y' z' := by
  refine ⟨⟨?_, ?_, ?_⟩, fun o => ?_⟩
  · rw [World.cell?_setCell_other _ _ _ _ (by simp), World.cell?_setCell_other _ _ _ _ (by simp)]
    exact World.cell?_setCell_same _ _ _ h.bx.c0
  · rw [World.cell?_setCell_other _ _ _ _ (by simp)]
    exact World.cell?_setCell_same _ _ _ (by rw [World.cell?_setCell_other _ _ _ _ (by simp)]; exact h.bx.c1)
  · exact World.cell?_setCell_same _ _ _ (by rw [World.cell?_setCell_other _ _ _ _ (by simp), World.cell?_setCell_other _ _ _ _ (by simp)]; exact h.bx.c2)
  · simp [go_sem, h.fr]
/-- What is put into a box of one's own. -/
theorem In3.put_ {w0 wx : World} {vA vB vC : Value} {LA LB : List Fl} {LC : List Dp} (h : In3 w0 wx vA vB vC LA LB LC) {b : Nat} (hb : w0.heap.size ≤ b) (hs : Apart3 vA vB vC b) (x y z : Value) :
    In3 w0 (((wx.setCell ⟨b, 0, none⟩ x).setCell ⟨b, 1, none⟩ y).setCell ⟨b, 2, none⟩ z) vA vB vC LA LB LC :=
  ((h.setOut hb hs.1 hs.2.1 hs.2.2 0 _).setOut hb hs.1 hs.2.1 hs.2.2 1 _).setOut hb hs.1 hs.2.1 hs.2.2 2 _
/-- The disk that is worked on: right, in a box of one's own. -/
structure Nw (w0 w : World) (b : Nat) (A1 A2 A3 : Option Addr) (n1 c1 n2 c2 n3 c3 : Nat) (L1 L2 : List Fl) (O : List Dp) : Prop where
  bx : By w b (.slice A1 n1 c1) (.slice A2 n2 c2) (.slice A3 n3 c3)
  dk : DkL n1 n2 n3 L1 L2 O
  at_ : DiskAt w w.heap.size A1 A2 A3 L1 L2 O
  rt : diskB (L1, L2, O) = true
  bl : Bl w0 w
  lo : w0.heap.size ≤ b
theorem Nw.step {w0 w w' : World} {b : Nat} {A1 A2 A3 : Option Addr} {n1 c1 n2 c2 n3 c3 : Nat} {L1 L2 : List Fl} {O : List Dp} (h : Nw w0 w b A1 A2 A3 n1 c1 n2 c2 n3 c3 L1 L2 O) {o : Dp} (hc : (actD (L1, L2, O) o).2 = 0)
    {vA vB vC : Value} (hI : In3 w w' vA vB vC (actD (L1, L2, O) o).1.1 (actD (L1, L2, O) o).1.2.1 (actD (L1, L2, O) o).1.2.2) :
    ∃ B1 B2 B3 m1 d1 m2 d2 m3 d3 M1 M2 MO, (vA = .slice B1 m1 d1 ∧ vB = .slice B2 m2 d2 ∧ vC = .slice B3 m3 d3) ∧ (actD (L1, L2, O) o).1 = (M1, M2, MO) ∧
      Nw w0 (((w'.setCell ⟨b, 0, none⟩ vA).setCell ⟨b, 1, none⟩ vB).setCell ⟨b, 2, none⟩ vC) b B1 B2 B3 m1 d1 m2 d2 m3 d3 M1 M2 MO ∧
      In3 w0 (((w'.setCell ⟨b, 0, none⟩ vA).setCell ⟨b, 1, none⟩ vB).setCell ⟨b, 2, none⟩ vC) vA vB vC M1 M2 MO := by
  obtain ⟨-, -, -, -, e, k⟩ := act_ok h.rt hc
  rw [e] at hI ⊢
  have hap := hI.apart h.bx.bx.lt
  have hJ := (hI.low h.bl).put_ h.lo hap vA vB vC
  obtain ⟨B1, B2, B3, m1, d1, m2, d2, m3, d3, ⟨rfl, rfl, rfl⟩, ⟨e1, e2, e3⟩, hG, -, -⟩ := hJ.opened
  exact ⟨B1, B2, B3, m1, d1, m2, d2, m3, d3, _, _, _, ⟨rfl, rfl, rfl⟩, rfl, ⟨(h.bx.bl hI.bl).put _ _ _, DkL.of_disk k e1 e2 e3, hG, k, hJ.bl, h.lo⟩, hJ⟩

end Go.Proofs.Ytgfmgmcpfefmkaa

set_option linter.unusedSimpArgs false
set_option linter.unusedVariables false
namespace Go.Proofs.Ytgfmgmcpfefmkaa
open Go.RowKit

set_option maxRecDepth 100000 in
set_option maxHeartbeats 16000000 in
theorem l15Act_anyL {A1 A2 A3 : Option Addr} {n1 n2 n3 c1 c2 c3 : Nat} {L1 L2 : List Fl} {O : List Dp} (hb : DkL n1 n2 n3 L1 L2 O) (hd : diskB (L1, L2, O) = true) (o : Dp) (hos : o.data.size ≤ 1048576) (w : World) (H : DiskAt w w.heap.size A1 A2 A3 L1 L2 O) :
    Calls Try.prog 51 #[.agg #[.slice A1 n1 c1, .slice A2 n2 c2, .slice A3 n3 c3], .agg #[.int .i64 o.kind, .string o.name, .string o.to, .string o.data]] w (ActNew (actD (L1, L2, O) o) w) := by
  obtain ⟨q, a, b, d⟩ := o
  simp only at hos
  have KH := Lib.hid H
  have KB := Lib.hid hb
  obtain ⟨f1, f2, f3⟩ := files_parts (disk_live hd)
  have SO := Lib.hid (ord_sorted f3)
  have OO := Lib.hid f3
  simp only at f1 f2
  have hn1 : n1 ≤ 60 := by have := KB.out.l1; omega
  have hO2 : n3 ≤ 200 := by
    have h := hd
    unfold diskB at h
    simp only [Bool.and_eq_true, decide_eq_true_eq] at h
    have := KB.out.l3
    omega
  have hdl := do_len L1 ⟨q, a, b, d⟩
  have hdsm := do_sum L1 ⟨q, a, b, d⟩
  simp only at hdsm
  clear H hb hd f3
  obtain ⟨w0, hw0⟩ : ∃ x, x = ((w.alloc (.cells #[.slice A1 n1 c1, .slice A2 n2 c2, .slice A3 n3 c3] 31)).alloc (.cells #[.int .i64 q, .string a, .string b, .string d] 51)).alloc (.cells #[.slice none 0 0, .slice none 0 0, .slice none 0 0] 31) := ⟨_, rfl⟩
  have B0 := Lib.hid (show Bl w w0 from by rw [hw0]; exact (((Bl.refl w).alloc_ _).alloc_ _).alloc_ _)
  have s0 : w0.heap.size = w.heap.size + 1 + 1 + 1 := by rw [hw0]; simp
  have HSH := Lib.hid (show ∀ wx, Bl w0 wx → wx.cell? ⟨w.heap.size, 0, none⟩ = some (.slice A1 n1 c1) ∧ wx.cell? ⟨w.heap.size, 1, none⟩ = some (.slice A2 n2 c2) ∧ wx.cell? ⟨w.heap.size, 2, none⟩ = some (.slice A3 n3 c3) ∧ wx.cell? ⟨w.heap.size + 1, 0, none⟩ = some (.int .i64 q) ∧ wx.cell? ⟨w.heap.size + 1, 1, none⟩ = some (.string a) ∧ wx.cell? ⟨w.heap.size + 1, 2, none⟩ = some (.string b) ∧ wx.cell? ⟨w.heap.size + 1, 3, none⟩ = some (.string d) from fun wx hb => by
    rw [hw0] at hb
    obtain ⟨a1, a2, a3⟩ := box3 (Bl.trans_ (((Bl.refl (w.alloc (.cells #[.slice A1 n1 c1, .slice A2 n2 c2, .slice A3 n3 c3] 31))).alloc_ _).alloc_ _) hb)
    obtain ⟨b1, b2, b3, b4⟩ := box4 (Bl.trans_ ((Bl.refl ((w.alloc (.cells #[.slice A1 n1 c1, .slice A2 n2 c2, .slice A3 n3 c3] 31)).alloc (.cells #[.int .i64 q, .string a, .string b, .string d] 51))).alloc_ _) hb)
    simp only [World.size_alloc] at b1 b2 b3 b4
    exact ⟨a1, a2, a3, b1, b2, b3, b4⟩)
  have HRS := Lib.hid (show ∀ wx, Bl w0 wx → wx.cell? ⟨w.heap.size + 1 + 1, 0, none⟩ = some (.slice none 0 0) ∧ wx.cell? ⟨w.heap.size + 1 + 1, 1, none⟩ = some (.slice none 0 0) ∧ wx.cell? ⟨w.heap.size + 1 + 1, 2, none⟩ = some (.slice none 0 0) ∧ ∀ o, wx.frozen? ⟨w.heap.size + 1 + 1, o, none⟩ = false from fun wx hb => by
    rw [hw0] at hb
    obtain ⟨a1, a2, a3⟩ := box3 hb
    simp only [World.size_alloc] at a1 a2 a3
    exact ⟨a1, a2, a3, fun o => by rw [(bcell hb).2 _ _ (by simp)]; simp [go_sem]⟩)
  have K0 := Lib.hid (KH.out.bl B0.out)
  have I0 := Lib.hid (Bl.refl w0)
  show Calls Try.prog 51 #[.agg #[.slice A1 n1 c1, .slice A2 n2 c2, .slice A3 n3 c3], .agg #[.int .i64 q, .string a, .string b, .string d]] w _
  by_cases b1 : formB ⟨q, a, b, d⟩ = true
  · have HB1 := Lib.hid b1
    by_cases b2 : foundB L1 ⟨q, a, b, d⟩ = true
    · have HB2 := Lib.hid b2
      clear b1 b2
      go_enter Try.func51, Try.ntmps51
      go_wp2_with fail
      rw [← hw0]
      refine (l15Form_any ⟨q, a, b, d⟩ _).mono ?_
      rintro e w1 ⟨rfl, hb1⟩
      have I1 := Lib.hid (I0.out.trans_ hb1)
      obtain ⟨x10, x11, x12, y10, y11, y12, y13⟩ := HSH.out _ I1.out
      clear hb1 hw0
      rw [HB1.out]
      go_wp2_with fail
      refine (l15Do_any A1 n1 c1 L1 KB.out.l1 ⟨q, a, b, d⟩ _ (by omega) (by omega) (by simp only; omega) SO.out (KH.out.f1.bl (B0.out.trans_ I1.out))).mono ?_
      rintro e w3 ⟨v3, rfl, hv3, hb3⟩
      have I3 := Lib.hid (I1.out.trans_ hb3)
      clear x10 x11 x12 y10 y11 y12 y13
      obtain ⟨x30, x31, x32, y30, y31, y32, y33⟩ := HSH.out _ I3.out
      obtain ⟨A', c', rfl, hc', ha', hlt3⟩ := own_shapeF hv3
      have F3 := Lib.hid ha'
      have V3 := Lib.hid hv3
      have LT3 := Lib.hid hlt3
      have z3' := hb3.size
      have z1' := I1.out.size
      obtain ⟨D, hD⟩ : ∃ D, D = doL L1 ⟨q, a, b, d⟩ := ⟨_, rfl⟩
      rw [← hD] at hdl hdsm hc' F3 V3
      have HD := Lib.hid hD
      have HFT := Lib.hid (show filesB D = fitsB D from by rw [hD]; exact files_fits (do_files OO.out HB1.out))
      rw [← hD]
      obtain ⟨m', hm'⟩ : ∃ m', m' = D.length := ⟨_, rfl⟩
      rw [← hm'] at hdl hc' V3
      rw [← hm', HB2.out]
      have HM' := Lib.hid hm'
      have h200 : ((n3 : Int) == 200) = decide (n3 = 200) := by
        rw [Bool.eq_iff_iff]; simp; omega
      clear hv3 ha' hD hm' hb3 hlt3
      by_cases b3 : n3 = 200
      · have e200 : ((n3 : Int) == 200) = true := by rw [h200]; simpa using b3
        have HB3 := Lib.hid b3
        clear h200 b3
        go_wp2_with fail
        refine (l15Copy_anyL KB.out _ (KH.out.bl (B0.out.trans_ I3.out))).mono ?_
        rintro e wz ⟨vA, vB, vC, rfl, hIz⟩
        obtain ⟨PA, PB, PC, kA, eA, kB, eB, kC, eC, ⟨rfl, rfl, rfl⟩, -⟩ := hIz.opened'
        have J := Lib.hid hIz
        obtain ⟨z0, z1, z2, z3⟩ := HRS.out _ (I3.out.trans_ hIz.bl)
        have hsz := I3.out.size
        clear hIz
        go_wp2
        refine bodyPost_ret (v := .tuple #[.agg #[.slice PA kA eA, .slice PB kB eB, .slice PC kC eC], .int .i64 4]) (by simp [results, Try.results51, go_sem, z0, z1, z2]) rfl ⟨.slice PA kA eA, .slice PB kB eB, .slice PC kC eC, by rw [show (actD (L1, L2, O) ⟨q, a, b, d⟩).2 = 4 from by unfold actD; rw [if_neg (by rw [HB1.out]; simp), if_neg (by simp only; rw [HB2.out]; simp), if_pos (.inl (by simp only; rw [← KB.out.l3]; exact HB3.out))]], ?_⟩
        rw [show (actD (L1, L2, O) ⟨q, a, b, d⟩).1 = (L1, L2, O) from by unfold actD; rw [if_neg (by rw [HB1.out]; simp), if_neg (by simp only; rw [HB2.out]; simp), if_pos (.inl (by simp only; rw [← KB.out.l3]; exact HB3.out))]]
        exact J.out.fin (B0.out.trans_ I3.out) (b := w.heap.size + 1 + 1) (by omega) (by omega) _ _ _
      · have e200 : ((n3 : Int) == 200) = false := by rw [h200]; simpa using b3
        clear h200
        go_wp2_with fail
        refine (l15Files_any A' m' c' D HM'.out _ (by omega) (by omega) F3.out).mono ?_
        rintro e w4 ⟨rfl, hb4⟩
        rw [HFT.out]
        have z4' := hb4.size
        have V4 := Lib.hid (V3.out.bl hb4)
        have I4 := Lib.hid (I3.out.trans_ hb4)
        clear x30 x31 x32 y30 y31 y32 y33
        obtain ⟨x40, x41, x42, y40, y41, y42, y43⟩ := HSH.out _ I4.out
        clear hb4
        by_cases b4 : fitsB D = true
        · have HB4 := Lib.hid b4
          rw [b4]
          clear b4 x40 x41 x42 y40 y41 y42 y43
          obtain ⟨x40, x41, x42, y40, y41, y42, y43⟩ := HSH.out _ I4.out
          go_wp2_with fail
          refine (l15Copy_anyL KB.out _ (KH.out.bl (B0.out.trans_ I4.out))).mono ?_
          rintro e w5 ⟨vA, vB, vC, rfl, hI5⟩
          obtain ⟨PA, PB, PC, kA, eA, kB, eB, kC, eC, ⟨rfl, rfl, rfl⟩, -⟩ := hI5.opened'
          have z5' := hI5.bl.size
          have I5 := Lib.hid (I4.out.trans_ hI5.bl)
          have ltB := hI5.ltB
          have ltC := hI5.ltC
          have ltA : ∀ g, (Value.slice A' m' c').ownBlock = some g → w1.heap.size ≤ g ∧ g < w3.heap.size := fun g hg => LT3.out g (by rw [← ownBlock_slice A' m' c']; exact hg)
          have J := Lib.hid (show In3 w w5 (.slice A' m' c') (.slice PB kB eB) (.slice PC kC eC) D L2 O from
            ⟨(V4.out.bl hI5.bl).low (by have := B0.out.size; omega), hI5.oB.low (by have := B0.out.size; omega), hI5.oC.low (by have := B0.out.size; omega), B0.out.trans_ I5.out,
              (fun g h1 h2 => by have := ltA g h1; have := ltB g h2; omega), (fun g h1 h2 => by have := ltA g h1; have := ltC g h2; omega), hI5.dBC⟩)
          have zw := B0.out.size
          have J2 := Lib.hid (J.out.blx ((Bl.refl w5).alloc_ (.cells #[.slice A' m' c', .slice PB kB eB, .slice PC kC eC] 31)))
          have BWX := Lib.hid (show Bl w0 (w5.alloc (.cells #[.slice A' m' c', .slice PB kB eB, .slice PC kC eC] 31)) from I5.out.alloc_ _)
          have BQ := Lib.hid (Bx.new w5 (.slice A' m' c') (.slice PB kB eB) (.slice PC kC eC) 31)
          have QF := Lib.hid (show ∀ o, (w5.alloc (.cells #[.slice A' m' c', .slice PB kB eB, .slice PC kC eC] 31)).frozen? ⟨w5.heap.size, o, none⟩ = false from fun o => by simp [go_sem])
          clear x40 x41 x42 y40 y41 y42 y43
          obtain ⟨u0, u1, u2, v0, v1, v2, v3⟩ := HSH.out _ I5.out
          have hl3 : O.length ≤ 1048575 := by have := KB.out.l3; omega
          have OC2 := Lib.hid (show ∀ j u, (encO (⟨q, a, b, d⟩ : Dp))[j]? = some u → ((w5.alloc (.cells #[.slice A' m' c', .slice PB kB eB, .slice PC kC eC] 31)).alloc (.cells #[.int .i64 q, .string a, .string b, .string d] 51)).cell? ⟨w5.heap.size + 1, j, none⟩ = some u from fun j u hj => by
            have e : (w5.alloc (.cells #[.slice A' m' c', .slice PB kB eB, .slice PC kC eC] 31)).heap.size = w5.heap.size + 1 := by simp
            rw [← e, World.cell?_alloc_mark]
            match j, hj with
            | 0, hj => exact hj
            | 1, hj => exact hj
            | 2, hj => exact hj
            | 3, hj => exact hj
            | j + 4, hj => simp [encO] at hj)
          clear hI5
          have i5' := I5.out.size
          have ne0 : ¬ w5.heap.size = w.heap.size := by omega
          have ne1 : ¬ w5.heap.size = w.heap.size + 1 := by omega
          have ne2 : ¬ w5.heap.size = w.heap.size + 1 + 1 := by omega
          have i0 : w.heap.size < w5.heap.size := by omega
          have i1 : w.heap.size + 1 < w5.heap.size := by omega
          have i2 : w.heap.size + 1 + 1 < w5.heap.size := by omega
          go_wp2_with (at_builtin; refine In3.wpSnoc rfl (.tmp 41) (.tmp 43) rfl (J2.out.blx ((Bl.refl _).alloc_ _)) ⟨q, a, b, d⟩ (w5.heap.size + 1) rfl rfl hl3 OC2.out ?_)
          intro P k e w7 hI7 hg7 hx7
          have QX := Lib.hid (BQ.out.bl ((Bl.refl _).alloc_ (.cells #[.int .i64 q, .string a, .string b, .string d] 51)))
          have hneC : some w5.heap.size ≠ (Value.slice PC kC eC).ownBlock := fun e => by have := ltC _ e.symm; omega
          have t0 := hg7.cell QX.out.c0 hneC
          have t1 := hg7.cell QX.out.c1 hneC
          have t2 := hg7.cell QX.out.c2 hneC
          have tf : ∀ o, w7.frozen? ⟨w5.heap.size, o, none⟩ = false := fun o => by
            have hlt : w5.heap.size < ((w5.alloc (.cells #[.slice A' m' c', .slice PB kB eB, .slice PC kC eC] 31)).alloc (.cells #[.int .i64 q, .string a, .string b, .string d] 51)).heap.size := by simp; omega
            rw [World.frozen?_of_block (a := ⟨w5.heap.size, o, none⟩) (hg7.block _ hlt hneC)]
            rw [(bcell ((Bl.refl _).alloc_ (.cells #[.int .i64 q, .string a, .string b, .string d] 51))).2 _ _ (by simp)]
            exact QF.out o
          have hneW : ∀ b, w.heap.size ≤ b → b < w0.heap.size → some b ≠ (Value.slice PC kC eC).ownBlock := fun b hb1 hb2 e => by have := ltC _ e.symm; have := I4.out.size; omega
          have RX := HRS.out _ (BWX.out.alloc_ (.cells #[.int .i64 q, .string a, .string b, .string d] 51))
          have r0 := hg7.cell RX.1 (hneW (w.heap.size + 1 + 1) (by omega) (by omega))
          have r1 := hg7.cell RX.2.1 (hneW (w.heap.size + 1 + 1) (by omega) (by omega))
          have r2 := hg7.cell RX.2.2.1 (hneW (w.heap.size + 1 + 1) (by omega) (by omega))
          have rf : ∀ o, w7.frozen? ⟨w.heap.size + 1 + 1, o, none⟩ = false := fun o => by
            have hlt : w.heap.size + 1 + 1 < ((w5.alloc (.cells #[.slice A' m' c', .slice PB kB eB, .slice PC kC eC] 31)).alloc (.cells #[.int .i64 q, .string a, .string b, .string d] 51)).heap.size := by simp; omega
            rw [World.frozen?_of_block (a := ⟨w.heap.size + 1 + 1, o, none⟩) (hg7.block _ hlt (hneW (w.heap.size + 1 + 1) (by omega) (by omega)))]
            exact RX.2.2.2 o
          have I7 := Lib.hid hI7
          have hz7 := hg7.size
          simp only [World.size_alloc] at hz7
          have ltC7 : ∀ g, (Value.slice P k e).ownBlock = some g → g ≠ w5.heap.size := fun g hg he => by
            rcases hx7 g hg with h | h
            · have := ltC g h; omega
            · first | omega | (simp only [World.size_alloc] at h; omega)
          have ltCr : ∀ g, (Value.slice P k e).ownBlock = some g → g ≠ w.heap.size + 1 + 1 := fun g hg he => by
            rcases hx7 g hg with h | h
            · have := ltC g h; have := I4.out.size; omega
            · first | omega | (simp only [World.size_alloc] at h; omega)
          have HA := Lib.hid (show actD (L1, L2, O) ⟨q, a, b, d⟩ = ((D, L2, O ++ [⟨q, a, b, d⟩]), 0) from by unfold actD; rw [if_neg (by rw [HB1.out]; simp), if_neg (by simp only; rw [HB2.out]; simp), if_neg (by simp only; rintro (h | h); exact b3 (by rw [KB.out.l3]; exact h); rw [← HD.out, HB4.out] at h; exact absurd h (by simp)), ← HD.out])
          clear hI7 hg7 u0 u1 u2 v0 v1 v2 v3 RX
          go_wp2
          refine bodyPost_ret (v := .tuple #[.agg #[.slice A' m' c', .slice PB kB eB, .slice P k e], .int .i64 0]) (by simp [results, Try.results51, go_sem, r0, r1, r2, t0, t1, t2]) rfl ⟨.slice A' m' c', .slice PB kB eB, .slice P k e, by rw [HA.out], ?_⟩
          rw [HA.out]
          exact ((((I7.out.setOut (b := w5.heap.size) (by omega) (fun g h => by have := ltA g h; omega) (fun g h => by have := ltB g h; omega) ltC7 2 _).setOut (b := w.heap.size + 1 + 1) (by omega) (fun g h => by have := ltA g h; omega) (fun g h => by have := ltB g h; omega) ltCr 0 _).setOut (b := w.heap.size + 1 + 1) (by omega) (fun g h => by have := ltA g h; omega) (fun g h => by have := ltB g h; omega) ltCr 1 _).setOut (b := w.heap.size + 1 + 1) (by omega) (fun g h => by have := ltA g h; omega) (fun g h => by have := ltB g h; omega) ltCr 2 _)
        · have HB4 := Lib.hid (show fitsB D = false from by simpa using b4)
          rw [HB4.out]
          clear b4
          go_wp2_with fail
          refine (l15Copy_anyL KB.out _ (KH.out.bl (B0.out.trans_ I4.out))).mono ?_
          rintro e wz ⟨vA, vB, vC, rfl, hIz⟩
          obtain ⟨PA, PB, PC, kA, eA, kB, eB, kC, eC, ⟨rfl, rfl, rfl⟩, -⟩ := hIz.opened'
          have J := Lib.hid hIz
          obtain ⟨z0, z1, z2, z3⟩ := HRS.out _ (I4.out.trans_ hIz.bl)
          have hsz := I4.out.size
          clear hIz
          go_wp2
          refine bodyPost_ret (v := .tuple #[.agg #[.slice PA kA eA, .slice PB kB eB, .slice PC kC eC], .int .i64 4]) (by simp [results, Try.results51, go_sem, z0, z1, z2]) rfl ⟨.slice PA kA eA, .slice PB kB eB, .slice PC kC eC, by rw [show (actD (L1, L2, O) ⟨q, a, b, d⟩).2 = 4 from by unfold actD; rw [if_neg (by rw [HB1.out]; simp), if_neg (by simp only; rw [HB2.out]; simp), if_pos (.inr (by simp only; rw [← HD.out]; exact HB4.out))]], ?_⟩
          rw [show (actD (L1, L2, O) ⟨q, a, b, d⟩).1 = (L1, L2, O) from by unfold actD; rw [if_neg (by rw [HB1.out]; simp), if_neg (by simp only; rw [HB2.out]; simp), if_pos (.inr (by simp only; rw [← HD.out]; exact HB4.out))]]
          exact J.out.fin (B0.out.trans_ I4.out) (b := w.heap.size + 1 + 1) (by omega) (by omega) _ _ _
    · have HB2 := Lib.hid (show foundB L1 ⟨q, a, b, d⟩ = false from by simpa using b2)
      clear b1 b2
      go_enter Try.func51, Try.ntmps51
      go_wp2_with fail
      rw [← hw0]
      refine (l15Form_any ⟨q, a, b, d⟩ _).mono ?_
      rintro e w1 ⟨rfl, hb1⟩
      have I1 := Lib.hid (I0.out.trans_ hb1)
      obtain ⟨x10, x11, x12, y10, y11, y12, y13⟩ := HSH.out _ I1.out
      clear hb1 hw0
      rw [HB1.out]
      go_wp2_with fail
      refine (l15Do_any A1 n1 c1 L1 KB.out.l1 ⟨q, a, b, d⟩ _ (by omega) (by omega) (by simp only; omega) SO.out (KH.out.f1.bl (B0.out.trans_ I1.out))).mono ?_
      rintro e w3 ⟨v3, rfl, hv3, hb3⟩
      have I3 := Lib.hid (I1.out.trans_ hb3)
      clear x10 x11 x12 y10 y11 y12 y13
      obtain ⟨x30, x31, x32, y30, y31, y32, y33⟩ := HSH.out _ I3.out
      obtain ⟨A', c', rfl, hc', ha', hlt3⟩ := own_shapeF hv3
      rw [HB2.out]
      clear hv3 ha' hb3 hlt3
      go_wp2_with fail
      refine (l15Copy_anyL KB.out _ (KH.out.bl (B0.out.trans_ I3.out))).mono ?_
      rintro e wz ⟨vA, vB, vC, rfl, hIz⟩
      obtain ⟨PA, PB, PC, kA, eA, kB, eB, kC, eC, ⟨rfl, rfl, rfl⟩, -⟩ := hIz.opened'
      have J := Lib.hid hIz
      obtain ⟨z0, z1, z2, z3⟩ := HRS.out _ (I3.out.trans_ hIz.bl)
      have hsz := I3.out.size
      clear hIz
      go_wp2
      refine bodyPost_ret (v := .tuple #[.agg #[.slice PA kA eA, .slice PB kB eB, .slice PC kC eC], .int .i64 3]) (by simp [results, Try.results51, go_sem, z0, z1, z2]) rfl ⟨.slice PA kA eA, .slice PB kB eB, .slice PC kC eC, by rw [show (actD (L1, L2, O) ⟨q, a, b, d⟩).2 = 3 from by unfold actD; rw [if_neg (by rw [HB1.out]; simp), if_pos (by simp only; exact HB2.out)]], ?_⟩
      rw [show (actD (L1, L2, O) ⟨q, a, b, d⟩).1 = (L1, L2, O) from by unfold actD; rw [if_neg (by rw [HB1.out]; simp), if_pos (by simp only; exact HB2.out)]]
      exact J.out.fin (B0.out.trans_ I3.out) (b := w.heap.size + 1 + 1) (by omega) (by omega) _ _ _
  · have HB1 := Lib.hid (show formB ⟨q, a, b, d⟩ = false from by simpa using b1)
    clear b1
    go_enter Try.func51, Try.ntmps51
    go_wp2_with fail
    rw [← hw0]
    refine (l15Form_any ⟨q, a, b, d⟩ _).mono ?_
    rintro e w1 ⟨rfl, hb1⟩
    have I1 := Lib.hid (I0.out.trans_ hb1)
    obtain ⟨x10, x11, x12, y10, y11, y12, y13⟩ := HSH.out _ I1.out
    clear hb1 hw0
    rw [HB1.out]
    go_wp2_with fail
    refine (l15Copy_anyL KB.out _ (KH.out.bl (B0.out.trans_ I1.out))).mono ?_
    rintro e wz ⟨vA, vB, vC, rfl, hIz⟩
    obtain ⟨PA, PB, PC, kA, eA, kB, eB, kC, eC, ⟨rfl, rfl, rfl⟩, -⟩ := hIz.opened'
    have J := Lib.hid hIz
    obtain ⟨z0, z1, z2, z3⟩ := HRS.out _ (I1.out.trans_ hIz.bl)
    have hsz := I1.out.size
    clear hIz
    go_wp2
    refine bodyPost_ret (v := .tuple #[.agg #[.slice PA kA eA, .slice PB kB eB, .slice PC kC eC], .int .i64 2]) (by simp [results, Try.results51, go_sem, z0, z1, z2]) rfl ⟨.slice PA kA eA, .slice PB kB eB, .slice PC kC eC, by rw [show (actD (L1, L2, O) ⟨q, a, b, d⟩).2 = 2 from by unfold actD; rw [if_pos HB1.out]], ?_⟩
    rw [show (actD (L1, L2, O) ⟨q, a, b, d⟩).1 = (L1, L2, O) from by unfold actD; rw [if_pos HB1.out]]
    exact J.out.fin (B0.out.trans_ I1.out) (b := w.heap.size + 1 + 1) (by omega) (by omega) _ _ _

end Go.Proofs.Ytgfmgmcpfefmkaa

set_option linter.unusedSimpArgs false
set_option linter.unusedVariables false
namespace Go.Proofs.Ytgfmgmcpfefmkaa
open Go.RowKit

theorem atI_has {L : List Fl} {nm : ByteArray} {i : Int} (h : AtI L nm i) : decide (0 ≤ i) = hasL L nm := by
  rcases h with ⟨k, rfl, -, -, -, e⟩ | ⟨rfl, e⟩
  · rw [e]; simp
  · rw [e]; rfl

set_option maxRecDepth 100000 in
set_option maxHeartbeats 16000000 in
theorem specReplace_any {A1 A2 A3 : Option Addr} {n1 n2 n3 c1 c2 c3 : Nat} {L1 L2 : List Fl} {O : List Dp} (hb : DkB n1 n2 n3 L1 L2 O) (nm d : ByteArray) (hnm : nm.size ≤ 1048576) (hds : d.size ≤ 1048576) (w : World) (H : DiskAt w w.heap.size A1 A2 A3 L1 L2 O) :
    Calls Try.prog 18 #[.agg #[.slice A1 n1 c1, .slice A2 n2 c2, .slice A3 n3 c3], .string nm, .string d] w (ActNew (replD (L1, L2, O) nm d) w) := by
  have KH := Lib.hid H
  have KB := Lib.hid hb
  have m1 := hb.m1
  clear H hb
  obtain ⟨w0, hw0⟩ : ∃ x, x = (w.alloc (.cells #[.slice A1 n1 c1, .slice A2 n2 c2, .slice A3 n3 c3] 31)).alloc (.cells #[.slice none 0 0, .slice none 0 0, .slice none 0 0] 31) := ⟨_, rfl⟩
  have B0 := Lib.hid (show Bl w w0 from by rw [hw0]; exact ((Bl.refl w).alloc_ _).alloc_ _)
  have s0 : w0.heap.size = w.heap.size + 1 + 1 := by rw [hw0]; simp
  have HSH := Lib.hid (show ∀ wx, Bl w0 wx → wx.cell? ⟨w.heap.size, 0, none⟩ = some (.slice A1 n1 c1) ∧ wx.cell? ⟨w.heap.size, 1, none⟩ = some (.slice A2 n2 c2) ∧ wx.cell? ⟨w.heap.size, 2, none⟩ = some (.slice A3 n3 c3) from fun wx hb => by
    rw [hw0] at hb
    exact box3 (Bl.trans_ ((Bl.refl (w.alloc (.cells #[.slice A1 n1 c1, .slice A2 n2 c2, .slice A3 n3 c3] 31))).alloc_ _) hb))
  have HRS := Lib.hid (show ∀ wx, Bl w0 wx → wx.cell? ⟨w.heap.size + 1, 0, none⟩ = some (.slice none 0 0) ∧ wx.cell? ⟨w.heap.size + 1, 1, none⟩ = some (.slice none 0 0) ∧ wx.cell? ⟨w.heap.size + 1, 2, none⟩ = some (.slice none 0 0) ∧ ∀ o, wx.frozen? ⟨w.heap.size + 1, o, none⟩ = false from fun wx hb => by
    rw [hw0] at hb
    obtain ⟨a1, a2, a3⟩ := box3 hb
    simp only [World.size_alloc] at a1 a2 a3
    exact ⟨a1, a2, a3, fun o => by rw [(bcell hb).2 _ _ (by simp)]; simp [go_sem]⟩)
  by_cases hd : diskB (L1, L2, O) = true
  · have HD := Lib.hid hd
    have HE := Lib.hid (replD_yes hd nm d)
    obtain ⟨fr, hfr⟩ : ∃ fr, fr = newN nm := ⟨_, rfl⟩
    have hfr' : nm ++ (⟨#[46, 110, 101, 119]⟩ : ByteArray) = fr := hfr.symm
    have HFR := Lib.hid hfr
    have hcat : ¬ 9223372036854775807 < nm.size + 4 := by omega
    clear hd hfr
    go_enter Try.func18, Try.ntmps18
    go_wp2_with fail
    rw [← hw0]
    refine (specOk_dk KB.out _ (KH.out.bl B0.out)).mono ?_
    rintro e w1 ⟨rfl, hb1⟩
    have I1 := Lib.hid hb1
    obtain ⟨x0, x1, x2⟩ := HSH.out _ I1.out
    rw [HD.out]
    clear hb1 hw0
    have hlt1 : w.heap.size < w1.heap.size := by have := I1.out.size; omega
    have hne1 : w.heap.size ≠ w1.heap.size := by omega
    have hne2 : w1.heap.size ≠ w.heap.size := by omega
    have hne3 : w.heap.size + 1 ≠ w1.heap.size := by have := I1.out.size; omega
    have hne4 : w1.heap.size ≠ w.heap.size + 1 := by omega
    go_wp2_with fail
    refine (l15At_any A1 n1 c1 L1 KB.out.l1 fr _ m1 (KH.out.f1.bl ((B0.out.trans_ I1.out).alloc_ _))).mono ?_
    rintro e w2 ⟨⟨i, rfl, hi⟩, hb2⟩
    have hbi := atI_has hi
    have NW0 := Lib.hid (show Nw w0 w2 w1.heap.size A1 A2 A3 n1 c1 n2 c2 n3 c3 L1 L2 O from ⟨(By.new w1 _ _ _).bl hb2, KB.out.toL, KH.out.bl (B0.out.trans_ ((I1.out.alloc_ _).trans_ hb2)), HD.out, (I1.out.alloc_ _).trans_ hb2, I1.out.size⟩)
    obtain ⟨y0, y1, y2⟩ := NW0.out.bx.bx
    have y3 := NW0.out.bx.fr
    clear hi hb2 x0 x1 x2
    by_cases hh : hasL L1 fr = true
    · rw [hh] at hbi
      have HE0 := Lib.hid (show replD (L1, L2, O) nm d = runD (L1, L2, O) (L1, L2, O) [⟨3, fr, ⟨#[]⟩, ⟨#[]⟩⟩, ⟨1, fr, ⟨#[]⟩, d⟩, ⟨2, fr, nm, ⟨#[]⟩⟩] from by rw [HE.out, replO_yes (by rw [← HFR.out]; exact hh), HFR.out]; rfl)
      clear hh hfr' HE HFR
      go_wp2_with fail
      refine (l15Act_anyL NW0.out.dk NW0.out.rt ⟨3, fr, ⟨#[]⟩, ⟨#[]⟩⟩ (show (0 : Nat) ≤ 1048576 from by omega) _ NW0.out.at_).mono ?_
      rintro e w10 ⟨vA, vB, vC, rfl, hI⟩
      have hY := NW0.out.bx.bl hI.bl
      obtain ⟨y0, y1, y2⟩ := hY.bx
      have y3 := hY.fr
      by_cases hc : (actD (L1, L2, O) ⟨3, fr, ⟨#[]⟩, ⟨#[]⟩⟩).2 = 0
      · obtain ⟨B01, B02, B03, m01, d01, m02, d02, m03, d03, M01, M02, M0O, ⟨rfl, rfl, rfl⟩, he, hN, -⟩ := NW0.out.step hc hI
        have NW1 := Lib.hid hN
        have HE1 := Lib.hid (show replD (L1, L2, O) nm d = runD (L1, L2, O) (M01, M02, M0O) [⟨1, fr, ⟨#[]⟩, d⟩, ⟨2, fr, nm, ⟨#[]⟩⟩] from by rw [HE0.out, runD_yes hc, he])
        rw [hc]
        clear hI hN hY he hc
        go_wp2_with fail
        refine (l15Act_anyL NW1.out.dk NW1.out.rt ⟨1, fr, ⟨#[]⟩, d⟩ hds _ NW1.out.at_).mono ?_
        rintro e w11 ⟨vA, vB, vC, rfl, hI⟩
        have hY := NW1.out.bx.bl hI.bl
        obtain ⟨y0, y1, y2⟩ := hY.bx
        have y3 := hY.fr
        by_cases hc : (actD (M01, M02, M0O) ⟨1, fr, ⟨#[]⟩, d⟩).2 = 0
        · obtain ⟨B11, B12, B13, m11, d11, m12, d12, m13, d13, M11, M12, M1O, ⟨rfl, rfl, rfl⟩, he, hN, -⟩ := NW1.out.step hc hI
          have NW2 := Lib.hid hN
          have HE2 := Lib.hid (show replD (L1, L2, O) nm d = runD (L1, L2, O) (M11, M12, M1O) [⟨2, fr, nm, ⟨#[]⟩⟩] from by rw [HE1.out, runD_yes hc, he])
          rw [hc]
          clear hI hN hY he hc
          go_wp2_with fail
          refine (l15Act_anyL NW2.out.dk NW2.out.rt ⟨2, fr, nm, ⟨#[]⟩⟩ (show (0 : Nat) ≤ 1048576 from by omega) _ NW2.out.at_).mono ?_
          rintro e w12 ⟨vA, vB, vC, rfl, hI⟩
          have hY := NW2.out.bx.bl hI.bl
          obtain ⟨y0, y1, y2⟩ := hY.bx
          have y3 := hY.fr
          by_cases hc : (actD (M11, M12, M1O) ⟨2, fr, nm, ⟨#[]⟩⟩).2 = 0
          · obtain ⟨B21, B22, B23, m21, d21, m22, d22, m23, d23, M21, M22, M2O, ⟨rfl, rfl, rfl⟩, he, hN, -⟩ := NW2.out.step hc hI
            have NW3 := Lib.hid hN
            have HE3 := Lib.hid (show replD (L1, L2, O) nm d = runD (L1, L2, O) (M21, M22, M2O) [] from by rw [HE2.out, runD_yes hc, he])
            rw [hc]
            clear hI hN hY he hc
            go_wp2_with fail
            refine (l15Copy_anyL NW3.out.dk _ NW3.out.at_).mono ?_
            rintro e w30 ⟨vA, vB, vC, rfl, hI⟩
            obtain ⟨PA, PB, PC, kA, eA, kB, eB, kC, eC, ⟨rfl, rfl, rfl⟩, -⟩ := hI.opened'
            have J := Lib.hid hI
            obtain ⟨z0, z1, z2, z3⟩ := HRS.out _ (NW3.out.bl.trans_ hI.bl)
            have hsz := NW3.out.bl.size
            clear hI
            go_wp2
            refine bodyPost_ret (v := .tuple #[.agg #[.slice PA kA eA, .slice PB kB eB, .slice PC kC eC], .int .i64 0]) (by simp [results, Try.results18, go_sem, z0, z1, z2]) rfl ⟨.slice PA kA eA, .slice PB kB eB, .slice PC kC eC, by rw [HE3.out]; rfl, by rw [HE3.out]; exact J.out.fin (B0.out.trans_ NW3.out.bl) (b := w.heap.size + 1) (by omega) (by omega) _ _ _⟩
          · have HEX := Lib.hid (show replD (L1, L2, O) nm d = ((L1, L2, O), (actD (M11, M12, M1O) ⟨2, fr, nm, ⟨#[]⟩⟩).2) from by rw [HE2.out, runD_no hc])
            obtain ⟨PA, PB, PC, kA, eA, kB, eB, kC, eC, ⟨rfl, rfl, rfl⟩, -⟩ := hI.opened'
            have BX := Lib.hid ((hI.low NW2.out.bl).put_ NW2.out.lo (hI.apart NW2.out.bx.bx.lt) (.slice PA kA eA) (.slice PB kB eB) (.slice PC kC eC)).bl
            obtain ⟨x0, x1, x2⟩ := HSH.out _ (NW2.out.bl.trans_ hI.bl)
            obtain ⟨cc, hcc⟩ : ∃ cc, cc = (actD (M11, M12, M1O) ⟨2, fr, nm, ⟨#[]⟩⟩).2 := ⟨_, rfl⟩
            rw [← hcc] at HEX hc ⊢
            have bc : (cc == 0) = false := by simpa using hc
            clear hI hY hcc hc
            go_wp2_with fail
            refine (l15Copy_anyL KB.out.toL _ (KH.out.bl (B0.out.trans_ BX.out))).mono ?_
            rintro e w30 ⟨vA, vB, vC, rfl, hI⟩
            obtain ⟨QA, QB, QC, lA, fA, lB, fB, lC, fC, ⟨rfl, rfl, rfl⟩, -⟩ := hI.opened'
            have J := Lib.hid hI
            obtain ⟨z0, z1, z2, z3⟩ := HRS.out _ (BX.out.trans_ hI.bl)
            have hsz := BX.out.size
            clear hI
            go_wp2
            refine bodyPost_ret (v := .tuple #[.agg #[.slice QA lA fA, .slice QB lB fB, .slice QC lC fC], .int .i64 cc]) (by simp [results, Try.results18, go_sem, z0, z1, z2]) rfl ⟨.slice QA lA fA, .slice QB lB fB, .slice QC lC fC, by rw [HEX.out], by rw [HEX.out]; exact J.out.fin (B0.out.trans_ BX.out) (b := w.heap.size + 1) (by omega) (by omega) _ _ _⟩
        · have HEX := Lib.hid (show replD (L1, L2, O) nm d = ((L1, L2, O), (actD (M01, M02, M0O) ⟨1, fr, ⟨#[]⟩, d⟩).2) from by rw [HE1.out, runD_no hc])
          obtain ⟨PA, PB, PC, kA, eA, kB, eB, kC, eC, ⟨rfl, rfl, rfl⟩, -⟩ := hI.opened'
          have BX := Lib.hid ((hI.low NW1.out.bl).put_ NW1.out.lo (hI.apart NW1.out.bx.bx.lt) (.slice PA kA eA) (.slice PB kB eB) (.slice PC kC eC)).bl
          obtain ⟨x0, x1, x2⟩ := HSH.out _ (NW1.out.bl.trans_ hI.bl)
          obtain ⟨cc, hcc⟩ : ∃ cc, cc = (actD (M01, M02, M0O) ⟨1, fr, ⟨#[]⟩, d⟩).2 := ⟨_, rfl⟩
          rw [← hcc] at HEX hc ⊢
          have bc : (cc == 0) = false := by simpa using hc
          clear hI hY hcc hc
          go_wp2_with fail
          refine (l15Copy_anyL KB.out.toL _ (KH.out.bl (B0.out.trans_ BX.out))).mono ?_
          rintro e w30 ⟨vA, vB, vC, rfl, hI⟩
          obtain ⟨QA, QB, QC, lA, fA, lB, fB, lC, fC, ⟨rfl, rfl, rfl⟩, -⟩ := hI.opened'
          have J := Lib.hid hI
          obtain ⟨z0, z1, z2, z3⟩ := HRS.out _ (BX.out.trans_ hI.bl)
          have hsz := BX.out.size
          clear hI
          go_wp2
          refine bodyPost_ret (v := .tuple #[.agg #[.slice QA lA fA, .slice QB lB fB, .slice QC lC fC], .int .i64 cc]) (by simp [results, Try.results18, go_sem, z0, z1, z2]) rfl ⟨.slice QA lA fA, .slice QB lB fB, .slice QC lC fC, by rw [HEX.out], by rw [HEX.out]; exact J.out.fin (B0.out.trans_ BX.out) (b := w.heap.size + 1) (by omega) (by omega) _ _ _⟩
      · have HEX := Lib.hid (show replD (L1, L2, O) nm d = ((L1, L2, O), (actD (L1, L2, O) ⟨3, fr, ⟨#[]⟩, ⟨#[]⟩⟩).2) from by rw [HE0.out, runD_no hc])
        obtain ⟨PA, PB, PC, kA, eA, kB, eB, kC, eC, ⟨rfl, rfl, rfl⟩, -⟩ := hI.opened'
        have BX := Lib.hid ((hI.low NW0.out.bl).put_ NW0.out.lo (hI.apart NW0.out.bx.bx.lt) (.slice PA kA eA) (.slice PB kB eB) (.slice PC kC eC)).bl
        obtain ⟨x0, x1, x2⟩ := HSH.out _ (NW0.out.bl.trans_ hI.bl)
        obtain ⟨cc, hcc⟩ : ∃ cc, cc = (actD (L1, L2, O) ⟨3, fr, ⟨#[]⟩, ⟨#[]⟩⟩).2 := ⟨_, rfl⟩
        rw [← hcc] at HEX hc ⊢
        have bc : (cc == 0) = false := by simpa using hc
        clear hI hY hcc hc
        go_wp2_with fail
        refine (l15Copy_anyL KB.out.toL _ (KH.out.bl (B0.out.trans_ BX.out))).mono ?_
        rintro e w30 ⟨vA, vB, vC, rfl, hI⟩
        obtain ⟨QA, QB, QC, lA, fA, lB, fB, lC, fC, ⟨rfl, rfl, rfl⟩, -⟩ := hI.opened'
        have J := Lib.hid hI
        obtain ⟨z0, z1, z2, z3⟩ := HRS.out _ (BX.out.trans_ hI.bl)
        have hsz := BX.out.size
        clear hI
        go_wp2
        refine bodyPost_ret (v := .tuple #[.agg #[.slice QA lA fA, .slice QB lB fB, .slice QC lC fC], .int .i64 cc]) (by simp [results, Try.results18, go_sem, z0, z1, z2]) rfl ⟨.slice QA lA fA, .slice QB lB fB, .slice QC lC fC, by rw [HEX.out], by rw [HEX.out]; exact J.out.fin (B0.out.trans_ BX.out) (b := w.heap.size + 1) (by omega) (by omega) _ _ _⟩
    · have hh' : hasL L1 fr = false := by simpa using hh
      rw [hh'] at hbi
      have HE0 := Lib.hid (show replD (L1, L2, O) nm d = runD (L1, L2, O) (L1, L2, O) [⟨1, fr, ⟨#[]⟩, d⟩, ⟨2, fr, nm, ⟨#[]⟩⟩] from by rw [HE.out, replO_no (by rw [← HFR.out]; exact hh'), HFR.out]; rfl)
      clear hh hh' hfr' HE HFR
      go_wp2_with fail
      refine (l15Act_anyL NW0.out.dk NW0.out.rt ⟨1, fr, ⟨#[]⟩, d⟩ hds _ NW0.out.at_).mono ?_
      rintro e w10 ⟨vA, vB, vC, rfl, hI⟩
      have hY := NW0.out.bx.bl hI.bl
      obtain ⟨y0, y1, y2⟩ := hY.bx
      have y3 := hY.fr
      by_cases hc : (actD (L1, L2, O) ⟨1, fr, ⟨#[]⟩, d⟩).2 = 0
      · obtain ⟨B01, B02, B03, m01, d01, m02, d02, m03, d03, M01, M02, M0O, ⟨rfl, rfl, rfl⟩, he, hN, -⟩ := NW0.out.step hc hI
        have NW1 := Lib.hid hN
        have HE1 := Lib.hid (show replD (L1, L2, O) nm d = runD (L1, L2, O) (M01, M02, M0O) [⟨2, fr, nm, ⟨#[]⟩⟩] from by rw [HE0.out, runD_yes hc, he])
        rw [hc]
        clear hI hN hY he hc
        go_wp2_with fail
        refine (l15Act_anyL NW1.out.dk NW1.out.rt ⟨2, fr, nm, ⟨#[]⟩⟩ (show (0 : Nat) ≤ 1048576 from by omega) _ NW1.out.at_).mono ?_
        rintro e w11 ⟨vA, vB, vC, rfl, hI⟩
        have hY := NW1.out.bx.bl hI.bl
        obtain ⟨y0, y1, y2⟩ := hY.bx
        have y3 := hY.fr
        by_cases hc : (actD (M01, M02, M0O) ⟨2, fr, nm, ⟨#[]⟩⟩).2 = 0
        · obtain ⟨B11, B12, B13, m11, d11, m12, d12, m13, d13, M11, M12, M1O, ⟨rfl, rfl, rfl⟩, he, hN, -⟩ := NW1.out.step hc hI
          have NW2 := Lib.hid hN
          have HE2 := Lib.hid (show replD (L1, L2, O) nm d = runD (L1, L2, O) (M11, M12, M1O) [] from by rw [HE1.out, runD_yes hc, he])
          rw [hc]
          clear hI hN hY he hc
          go_wp2_with fail
          refine (l15Copy_anyL NW2.out.dk _ NW2.out.at_).mono ?_
          rintro e w30 ⟨vA, vB, vC, rfl, hI⟩
          obtain ⟨PA, PB, PC, kA, eA, kB, eB, kC, eC, ⟨rfl, rfl, rfl⟩, -⟩ := hI.opened'
          have J := Lib.hid hI
          obtain ⟨z0, z1, z2, z3⟩ := HRS.out _ (NW2.out.bl.trans_ hI.bl)
          have hsz := NW2.out.bl.size
          clear hI
          go_wp2
          refine bodyPost_ret (v := .tuple #[.agg #[.slice PA kA eA, .slice PB kB eB, .slice PC kC eC], .int .i64 0]) (by simp [results, Try.results18, go_sem, z0, z1, z2]) rfl ⟨.slice PA kA eA, .slice PB kB eB, .slice PC kC eC, by rw [HE2.out]; rfl, by rw [HE2.out]; exact J.out.fin (B0.out.trans_ NW2.out.bl) (b := w.heap.size + 1) (by omega) (by omega) _ _ _⟩
        · have HEX := Lib.hid (show replD (L1, L2, O) nm d = ((L1, L2, O), (actD (M01, M02, M0O) ⟨2, fr, nm, ⟨#[]⟩⟩).2) from by rw [HE1.out, runD_no hc])
          obtain ⟨PA, PB, PC, kA, eA, kB, eB, kC, eC, ⟨rfl, rfl, rfl⟩, -⟩ := hI.opened'
          have BX := Lib.hid ((hI.low NW1.out.bl).put_ NW1.out.lo (hI.apart NW1.out.bx.bx.lt) (.slice PA kA eA) (.slice PB kB eB) (.slice PC kC eC)).bl
          obtain ⟨x0, x1, x2⟩ := HSH.out _ (NW1.out.bl.trans_ hI.bl)
          obtain ⟨cc, hcc⟩ : ∃ cc, cc = (actD (M01, M02, M0O) ⟨2, fr, nm, ⟨#[]⟩⟩).2 := ⟨_, rfl⟩
          rw [← hcc] at HEX hc ⊢
          have bc : (cc == 0) = false := by simpa using hc
          clear hI hY hcc hc
          go_wp2_with fail
          refine (l15Copy_anyL KB.out.toL _ (KH.out.bl (B0.out.trans_ BX.out))).mono ?_
          rintro e w30 ⟨vA, vB, vC, rfl, hI⟩
          obtain ⟨QA, QB, QC, lA, fA, lB, fB, lC, fC, ⟨rfl, rfl, rfl⟩, -⟩ := hI.opened'
          have J := Lib.hid hI
          obtain ⟨z0, z1, z2, z3⟩ := HRS.out _ (BX.out.trans_ hI.bl)
          have hsz := BX.out.size
          clear hI
          go_wp2
          refine bodyPost_ret (v := .tuple #[.agg #[.slice QA lA fA, .slice QB lB fB, .slice QC lC fC], .int .i64 cc]) (by simp [results, Try.results18, go_sem, z0, z1, z2]) rfl ⟨.slice QA lA fA, .slice QB lB fB, .slice QC lC fC, by rw [HEX.out], by rw [HEX.out]; exact J.out.fin (B0.out.trans_ BX.out) (b := w.heap.size + 1) (by omega) (by omega) _ _ _⟩
      · have HEX := Lib.hid (show replD (L1, L2, O) nm d = ((L1, L2, O), (actD (L1, L2, O) ⟨1, fr, ⟨#[]⟩, d⟩).2) from by rw [HE0.out, runD_no hc])
        obtain ⟨PA, PB, PC, kA, eA, kB, eB, kC, eC, ⟨rfl, rfl, rfl⟩, -⟩ := hI.opened'
        have BX := Lib.hid ((hI.low NW0.out.bl).put_ NW0.out.lo (hI.apart NW0.out.bx.bx.lt) (.slice PA kA eA) (.slice PB kB eB) (.slice PC kC eC)).bl
        obtain ⟨x0, x1, x2⟩ := HSH.out _ (NW0.out.bl.trans_ hI.bl)
        obtain ⟨cc, hcc⟩ : ∃ cc, cc = (actD (L1, L2, O) ⟨1, fr, ⟨#[]⟩, d⟩).2 := ⟨_, rfl⟩
        rw [← hcc] at HEX hc ⊢
        have bc : (cc == 0) = false := by simpa using hc
        clear hI hY hcc hc
        go_wp2_with fail
        refine (l15Copy_anyL KB.out.toL _ (KH.out.bl (B0.out.trans_ BX.out))).mono ?_
        rintro e w30 ⟨vA, vB, vC, rfl, hI⟩
        obtain ⟨QA, QB, QC, lA, fA, lB, fB, lC, fC, ⟨rfl, rfl, rfl⟩, -⟩ := hI.opened'
        have J := Lib.hid hI
        obtain ⟨z0, z1, z2, z3⟩ := HRS.out _ (BX.out.trans_ hI.bl)
        have hsz := BX.out.size
        clear hI
        go_wp2
        refine bodyPost_ret (v := .tuple #[.agg #[.slice QA lA fA, .slice QB lB fB, .slice QC lC fC], .int .i64 cc]) (by simp [results, Try.results18, go_sem, z0, z1, z2]) rfl ⟨.slice QA lA fA, .slice QB lB fB, .slice QC lC fC, by rw [HEX.out], by rw [HEX.out]; exact J.out.fin (B0.out.trans_ BX.out) (b := w.heap.size + 1) (by omega) (by omega) _ _ _⟩
  · have hd' : diskB (L1, L2, O) = false := by simpa using hd
    have HD := Lib.hid hd'
    have HE : replD (L1, L2, O) nm d = (([], [], []), 1) := replD_no hd' nm d
    rw [HE]
    clear hd hd' HE
    go_enter Try.func18, Try.ntmps18
    go_wp2_with fail
    rw [← hw0]
    refine (specOk_dk KB.out _ (KH.out.bl B0.out)).mono ?_
    rintro e w1 ⟨rfl, hb1⟩
    have I1 := Lib.hid hb1
    obtain ⟨z0, z1, z2, z3⟩ := HRS.out _ I1.out
    have hsz := I1.out.size
    have J := Lib.hid (In3.start (Bl.refl w1))
    rw [HD.out]
    clear hb1 hw0
    go_wp2
    refine bodyPost_ret (v := .tuple #[.agg #[.slice none 0 0, .slice none 0 0, .slice none 0 0], .int .i64 1]) (by simp [results, Try.results18, go_sem, z0, z1, z2]) rfl ⟨nilV, nilV, nilV, rfl, J.out.fin (B0.out.trans_ I1.out) (b := w.heap.size + 1) (by omega) (by omega) _ _ _⟩

end Go.Proofs.Ytgfmgmcpfefmkaa
