/-
  What is proved here: Do, on both sides. No conditions beyond those that each theorem states.
-/
import Derived.Test.YtipmjgciaalmbaaDKD5
set_option linter.unusedSimpArgs false
set_option linter.unusedVariables false
namespace Go.Proofs.Ytipmjgciaalmbaa
open Go.RowKit

/-- A disk behind an op, and what is told of it. -/
def doD (D : Dk) (o : Dp) : Dk × Int := if diskB D = true then actD D o else (([], [], []), 1)

set_option maxRecDepth 100000 in
set_option maxHeartbeats 8000000 in
theorem specDo_any {A1 A2 A3 : Option Addr} {n1 n2 n3 c1 c2 c3 : Nat} {L1 L2 : List Fl} {O : List Dp} (hb : DkB n1 n2 n3 L1 L2 O) (o : Dp) (hos : o.data.size ≤ 1048576) (w : World) (H : DiskAt w w.heap.size A1 A2 A3 L1 L2 O) :
    Calls Try.prog 25 #[.agg #[.slice A1 n1 c1, .slice A2 n2 c2, .slice A3 n3 c3], .agg #[.int .i64 o.kind, .string o.name, .string o.to, .string o.data]] w (ActNew (doD (L1, L2, O) o) w) := by
  obtain ⟨q, a, b, d⟩ := o
  simp only at hos
  have KH := Lib.hid H
  have KB := Lib.hid hb
  clear H hb
  obtain ⟨w0, hw0⟩ : ∃ x, x = ((w.alloc (.cells #[.slice A1 n1 c1, .slice A2 n2 c2, .slice A3 n3 c3] 31)).alloc (.cells #[.int .i64 q, .string a, .string b, .string d] 45)).alloc (.cells #[.slice none 0 0, .slice none 0 0, .slice none 0 0] 31) := ⟨_, rfl⟩
  have B0 := Lib.hid (show Bl w w0 from by rw [hw0]; exact (((Bl.refl w).alloc_ _).alloc_ _).alloc_ _)
  have s0 : w0.heap.size = w.heap.size + 1 + 1 + 1 := by rw [hw0]; simp
  have HSH := Lib.hid (show ∀ wx, Bl w0 wx → wx.cell? ⟨w.heap.size, 0, none⟩ = some (.slice A1 n1 c1) ∧ wx.cell? ⟨w.heap.size, 1, none⟩ = some (.slice A2 n2 c2) ∧ wx.cell? ⟨w.heap.size, 2, none⟩ = some (.slice A3 n3 c3) ∧ wx.cell? ⟨w.heap.size + 1, 0, none⟩ = some (.int .i64 q) ∧ wx.cell? ⟨w.heap.size + 1, 1, none⟩ = some (.string a) ∧ wx.cell? ⟨w.heap.size + 1, 2, none⟩ = some (.string b) ∧ wx.cell? ⟨w.heap.size + 1, 3, none⟩ = some (.string d) from fun wx hb => by
    rw [hw0] at hb
    obtain ⟨a1, a2, a3⟩ := box3 (Bl.trans_ (((Bl.refl (w.alloc (.cells #[.slice A1 n1 c1, .slice A2 n2 c2, .slice A3 n3 c3] 31))).alloc_ _).alloc_ _) hb)
    obtain ⟨b1, b2, b3, b4⟩ := box4 (Bl.trans_ ((Bl.refl ((w.alloc (.cells #[.slice A1 n1 c1, .slice A2 n2 c2, .slice A3 n3 c3] 31)).alloc (.cells #[.int .i64 q, .string a, .string b, .string d] 45))).alloc_ _) hb)
    simp only [World.size_alloc] at b1 b2 b3 b4
    exact ⟨a1, a2, a3, b1, b2, b3, b4⟩)
  have HRS := Lib.hid (show ∀ wx, Bl w0 wx → wx.cell? ⟨w.heap.size + 1 + 1, 0, none⟩ = some (.slice none 0 0) ∧ wx.cell? ⟨w.heap.size + 1 + 1, 1, none⟩ = some (.slice none 0 0) ∧ wx.cell? ⟨w.heap.size + 1 + 1, 2, none⟩ = some (.slice none 0 0) ∧ ∀ o, wx.frozen? ⟨w.heap.size + 1 + 1, o, none⟩ = false from fun wx hb => by
    rw [hw0] at hb
    obtain ⟨a1, a2, a3⟩ := box3 hb
    simp only [World.size_alloc] at a1 a2 a3
    exact ⟨a1, a2, a3, fun o => by rw [(bcell hb).2 _ _ (by simp)]; simp [go_sem]⟩)
  show Calls Try.prog 25 #[.agg #[.slice A1 n1 c1, .slice A2 n2 c2, .slice A3 n3 c3], .agg #[.int .i64 q, .string a, .string b, .string d]] w _
  by_cases hd : diskB (L1, L2, O) = true
  · have HD := Lib.hid hd
    have HE : doD (L1, L2, O) ⟨q, a, b, d⟩ = actD (L1, L2, O) ⟨q, a, b, d⟩ := by unfold doD; rw [if_pos hd]
    rw [HE]
    clear hd HE
    go_enter Try.func25, Try.ntmps25
    go_wp2_with fail
    rw [← hw0]
    refine (specOk_dk KB.out _ (KH.out.bl B0.out)).mono ?_
    rintro e w1 ⟨rfl, hb1⟩
    have I1 := Lib.hid hb1
    obtain ⟨x0, x1, x2, y0, y1, y2, y3⟩ := HSH.out _ I1.out
    rw [HD.out]
    clear hb1 hw0
    go_wp2_with fail
    refine (l15Act_any KB.out HD.out ⟨q, a, b, d⟩ hos _ (KH.out.bl (B0.out.trans_ I1.out))).mono ?_
    rintro e w2 ⟨vA, vB, vC, rfl, hI⟩
    obtain ⟨PA, PB, PC, kA, eA, kB, eB, kC, eC, ⟨rfl, rfl, rfl⟩, -⟩ := hI.opened'
    have J := Lib.hid hI
    obtain ⟨z0, z1, z2, z3⟩ := HRS.out _ (I1.out.trans_ hI.bl)
    have hsz := I1.out.size
    obtain ⟨cc, hcc⟩ : ∃ cc, cc = (actD (L1, L2, O) ⟨q, a, b, d⟩).2 := ⟨_, rfl⟩
    rw [← hcc]
    have HC := Lib.hid hcc
    clear hI hcc
    go_wp2
    refine bodyPost_ret (v := .tuple #[.agg #[.slice PA kA eA, .slice PB kB eB, .slice PC kC eC], .int .i64 cc]) (by simp [results, Try.results25, go_sem, z0, z1, z2]) rfl ⟨.slice PA kA eA, .slice PB kB eB, .slice PC kC eC, by rw [HC.out], J.out.fin (B0.out.trans_ I1.out) (b := w.heap.size + 1 + 1) (by omega) (by omega) _ _ _⟩
  · have hd' : diskB (L1, L2, O) = false := by simpa using hd
    have HD := Lib.hid hd'
    have HE : doD (L1, L2, O) ⟨q, a, b, d⟩ = (([], [], []), 1) := by unfold doD; rw [if_neg hd]
    rw [HE]
    clear hd hd' HE
    go_enter Try.func25, Try.ntmps25
    go_wp2_with fail
    rw [← hw0]
    refine (specOk_dk KB.out _ (KH.out.bl B0.out)).mono ?_
    rintro e w1 ⟨rfl, hb1⟩
    have I1 := Lib.hid hb1
    obtain ⟨z0, z1, z2, z3⟩ := HRS.out _ I1.out
    have hsz := I1.out.size
    have J := Lib.hid (In3.start (Bl.refl w1))
    rw [HD.out]
    clear hb1 hw0
    go_wp2
    refine bodyPost_ret (v := .tuple #[.agg #[.slice none 0 0, .slice none 0 0, .slice none 0 0], .int .i64 1]) (by simp [results, Try.results25, go_sem, z0, z1, z2]) rfl ⟨nilV, nilV, nilV, rfl, J.out.fin (B0.out.trans_ I1.out) (b := w.heap.size + 1 + 1) (by omega) (by omega) _ _ _⟩

set_option maxRecDepth 100000 in
set_option maxHeartbeats 8000000 in
theorem implDo_any {A1 A2 A3 : Option Addr} {n1 n2 n3 c1 c2 c3 : Nat} {L1 L2 : List Fl} {O : List Dp} (hb : DkB n1 n2 n3 L1 L2 O) (o : Dp) (hos : o.data.size ≤ 1048576) (w : World) (H : DiskAt w w.heap.size A1 A2 A3 L1 L2 O) :
    Calls Try.prog 27 #[.agg #[.slice A1 n1 c1, .slice A2 n2 c2, .slice A3 n3 c3], .agg #[.int .i64 o.kind, .string o.name, .string o.to, .string o.data]] w (ActNew (doD (L1, L2, O) o) w) := by
  obtain ⟨q, a, b, d⟩ := o
  simp only at hos
  have KH := Lib.hid H
  have KB := Lib.hid hb
  clear H hb
  obtain ⟨w0, hw0⟩ : ∃ x, x = ((w.alloc (.cells #[.slice A1 n1 c1, .slice A2 n2 c2, .slice A3 n3 c3] 31)).alloc (.cells #[.int .i64 q, .string a, .string b, .string d] 45)).alloc (.cells #[.slice none 0 0, .slice none 0 0, .slice none 0 0] 31) := ⟨_, rfl⟩
  have B0 := Lib.hid (show Bl w w0 from by rw [hw0]; exact (((Bl.refl w).alloc_ _).alloc_ _).alloc_ _)
  have s0 : w0.heap.size = w.heap.size + 1 + 1 + 1 := by rw [hw0]; simp
  have HSH := Lib.hid (show ∀ wx, Bl w0 wx → wx.cell? ⟨w.heap.size, 0, none⟩ = some (.slice A1 n1 c1) ∧ wx.cell? ⟨w.heap.size, 1, none⟩ = some (.slice A2 n2 c2) ∧ wx.cell? ⟨w.heap.size, 2, none⟩ = some (.slice A3 n3 c3) ∧ wx.cell? ⟨w.heap.size + 1, 0, none⟩ = some (.int .i64 q) ∧ wx.cell? ⟨w.heap.size + 1, 1, none⟩ = some (.string a) ∧ wx.cell? ⟨w.heap.size + 1, 2, none⟩ = some (.string b) ∧ wx.cell? ⟨w.heap.size + 1, 3, none⟩ = some (.string d) from fun wx hb => by
    rw [hw0] at hb
    obtain ⟨a1, a2, a3⟩ := box3 (Bl.trans_ (((Bl.refl (w.alloc (.cells #[.slice A1 n1 c1, .slice A2 n2 c2, .slice A3 n3 c3] 31))).alloc_ _).alloc_ _) hb)
    obtain ⟨b1, b2, b3, b4⟩ := box4 (Bl.trans_ ((Bl.refl ((w.alloc (.cells #[.slice A1 n1 c1, .slice A2 n2 c2, .slice A3 n3 c3] 31)).alloc (.cells #[.int .i64 q, .string a, .string b, .string d] 45))).alloc_ _) hb)
    simp only [World.size_alloc] at b1 b2 b3 b4
    exact ⟨a1, a2, a3, b1, b2, b3, b4⟩)
  have HRS := Lib.hid (show ∀ wx, Bl w0 wx → wx.cell? ⟨w.heap.size + 1 + 1, 0, none⟩ = some (.slice none 0 0) ∧ wx.cell? ⟨w.heap.size + 1 + 1, 1, none⟩ = some (.slice none 0 0) ∧ wx.cell? ⟨w.heap.size + 1 + 1, 2, none⟩ = some (.slice none 0 0) ∧ ∀ o, wx.frozen? ⟨w.heap.size + 1 + 1, o, none⟩ = false from fun wx hb => by
    rw [hw0] at hb
    obtain ⟨a1, a2, a3⟩ := box3 hb
    simp only [World.size_alloc] at a1 a2 a3
    exact ⟨a1, a2, a3, fun o => by rw [(bcell hb).2 _ _ (by simp)]; simp [go_sem]⟩)
  show Calls Try.prog 27 #[.agg #[.slice A1 n1 c1, .slice A2 n2 c2, .slice A3 n3 c3], .agg #[.int .i64 q, .string a, .string b, .string d]] w _
  by_cases hd : diskB (L1, L2, O) = true
  · have HD := Lib.hid hd
    have HE : doD (L1, L2, O) ⟨q, a, b, d⟩ = actD (L1, L2, O) ⟨q, a, b, d⟩ := by unfold doD; rw [if_pos hd]
    rw [HE]
    clear hd HE
    go_enter Try.func27, Try.ntmps27
    go_wp2_with fail
    rw [← hw0]
    refine (implOk_dk KB.out _ (KH.out.bl B0.out)).mono ?_
    rintro e w1 ⟨rfl, hb1⟩
    have I1 := Lib.hid hb1
    obtain ⟨x0, x1, x2, y0, y1, y2, y3⟩ := HSH.out _ I1.out
    rw [HD.out]
    clear hb1 hw0
    go_wp2_with fail
    refine (doNext_any KB.out HD.out ⟨q, a, b, d⟩ hos _ (KH.out.bl (B0.out.trans_ I1.out))).mono ?_
    rintro e w2 ⟨vA, vB, vC, rfl, hI⟩
    obtain ⟨PA, PB, PC, kA, eA, kB, eB, kC, eC, ⟨rfl, rfl, rfl⟩, -⟩ := hI.opened'
    have J := Lib.hid hI
    obtain ⟨z0, z1, z2, z3⟩ := HRS.out _ (I1.out.trans_ hI.bl)
    have hsz := I1.out.size
    obtain ⟨cc, hcc⟩ : ∃ cc, cc = (actD (L1, L2, O) ⟨q, a, b, d⟩).2 := ⟨_, rfl⟩
    rw [← hcc]
    have HC := Lib.hid hcc
    clear hI hcc
    go_wp2
    refine bodyPost_ret (v := .tuple #[.agg #[.slice PA kA eA, .slice PB kB eB, .slice PC kC eC], .int .i64 cc]) (by simp [results, Try.results27, go_sem, z0, z1, z2]) rfl ⟨.slice PA kA eA, .slice PB kB eB, .slice PC kC eC, by rw [HC.out], J.out.fin (B0.out.trans_ I1.out) (b := w.heap.size + 1 + 1) (by omega) (by omega) _ _ _⟩
  · have hd' : diskB (L1, L2, O) = false := by simpa using hd
    have HD := Lib.hid hd'
    have HE : doD (L1, L2, O) ⟨q, a, b, d⟩ = (([], [], []), 1) := by unfold doD; rw [if_neg hd]
    rw [HE]
    clear hd hd' HE
    go_enter Try.func27, Try.ntmps27
    go_wp2_with fail
    rw [← hw0]
    refine (implOk_dk KB.out _ (KH.out.bl B0.out)).mono ?_
    rintro e w1 ⟨rfl, hb1⟩
    have I1 := Lib.hid hb1
    obtain ⟨z0, z1, z2, z3⟩ := HRS.out _ I1.out
    have hsz := I1.out.size
    have J := Lib.hid (In3.start (Bl.refl w1))
    rw [HD.out]
    clear hb1 hw0
    go_wp2
    refine bodyPost_ret (v := .tuple #[.agg #[.slice none 0 0, .slice none 0 0, .slice none 0 0], .int .i64 1]) (by simp [results, Try.results27, go_sem, z0, z1, z2]) rfl ⟨nilV, nilV, nilV, rfl, J.out.fin (B0.out.trans_ I1.out) (b := w.heap.size + 1 + 1) (by omega) (by omega) _ _ _⟩

theorem actD_len (D : Dk) (o : Dp) (h1 : D.1.length ≤ 1000000) (h2 : D.2.1.length ≤ 1048576) (h3 : D.2.2.length ≤ 1048576) (hd : diskB D = true) : (actD D o).1.1.length ≤ 1048576 ∧ (actD D o).1.2.1.length ≤ 1048576 ∧ (actD D o).1.2.2.length ≤ 1048576 := by
  have hl := do_len D.1 o
  have hO : D.2.2.length ≤ 200 := by
    unfold diskB at hd
    simp only [Bool.and_eq_true, decide_eq_true_eq] at hd
    exact hd.1.1.2
  unfold actD
  split
  · exact ⟨(show D.1.length ≤ 1048576 from by omega), h2, h3⟩
  · split
    · exact ⟨(show D.1.length ≤ 1048576 from by omega), h2, h3⟩
    · split
      · exact ⟨(show D.1.length ≤ 1048576 from by omega), h2, h3⟩
      · exact ⟨(show (doL D.1 o).length ≤ 1048576 from by omega), h2, (show (D.2.2 ++ [o]).length ≤ 1048576 from by rw [List.length_append]; simp; omega)⟩
theorem doD_len (D : Dk) (o : Dp) (h2 : D.2.1.length ≤ 1048576) (h3 : D.2.2.length ≤ 1048576) : (doD D o).1.1.length ≤ 1048576 ∧ (doD D o).1.2.1.length ≤ 1048576 ∧ (doD D o).1.2.2.length ≤ 1048576 := by
  unfold doD
  split
  · rename_i h
    exact actD_len D o (by have := (files_parts (disk_live h)).1; omega) h2 h3 h
  · exact ⟨by simp, by simp, by simp⟩

end Go.Proofs.Ytipmjgciaalmbaa
