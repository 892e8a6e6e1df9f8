/-
  What is proved here: impl.GraphOk tells just whether a graph is right. No conditions beyond those that each theorem states.
-/
import Derived.Test.YtlddileiecnkjaaV5G02
set_option linter.unusedSimpArgs false
set_option linter.unusedVariables false
namespace Go.Proofs.Ytlddileiecnkjaa
open Go.RowKit

/-- Is arc k of the list as it should be, with the one ahead of it? -/
def stepB (n : Int) (L : List Arc3) (k : Nat) (h : k < L.length) : Bool :=
  arcB n L[k].1 L[k].2.1 L[k].2.2 && (if h0 : 0 < k then aheadB (L[k-1]'(by omega)).1 (L[k-1]'(by omega)).2.1 L[k].1 L[k].2.1 else true)
/-- Are the first k arcs as they should be? -/
def firstB (n : Int) (L : List Arc3) : Nat → Bool
  | 0 => true
  | k + 1 => firstB n L k && (if h : k < L.length then stepB n L k h else true)
/-- Is the graph right? -/
def okB (n : Int) (L : List Arc3) : Bool := decide (1 ≤ n ∧ n ≤ 24 ∧ L.length ≤ 150) && firstB n L L.length

theorem firstB_no {n : Int} {L : List Arc3} {k : Nat} (hk : firstB n L k = false) : ∀ m, k ≤ m → firstB n L m = false := by
  intro m hm
  induction m with
  | zero =>
    have e : k = 0 := by omega
    subst e; exact hk
  | succ m ih =>
    rcases Nat.lt_or_ge m k with h | h
    · have e : k = m + 1 := by omega
      subst e; exact hk
    · simp [firstB, ih h]
theorem firstB_step {n : Int} {L : List Arc3} {k : Nat} (h : k < L.length) : firstB n L (k + 1) = (firstB n L k && stepB n L k h) := by
  simp [firstB, h]
theorem okB_no {n : Int} {L : List Arc3} {k : Nat} (h : k < L.length) (hs : stepB n L k h = false) : okB n L = false := by
  have h1 : firstB n L (k + 1) = false := by rw [firstB_step h, hs, Bool.and_false]
  simp [okB, firstB_no h1 L.length (by omega)]
theorem okB_yes {n : Int} {L : List Arc3} (h : firstB n L L.length = true) : okB n L = decide (1 ≤ n ∧ n ≤ 24 ∧ L.length ≤ 150) := by
  simp [okB, h]

theorem endsI_ahead (a b c d : Int) : decide (0 ≤ endsI a b c d) = !(aheadB a b c d) := by
  rw [Bool.eq_iff_iff]
  simp only [decide_eq_true_eq, Bool.not_eq_true', aheadB, decide_eq_false_iff_not]
  unfold endsI orI cmpI
  split <;> split <;> (try split) <;> (try split) <;> (try split) <;> omega

set_option maxHeartbeats 400000 in
theorem implOk_any (N : Int) (A : Option Addr) (n c : Nat) (L : List Arc3) (hn : n = L.length) (w : World) (hm : n ≤ 9223372036854775807) (H1 : ArcsAt w w.heap.size A L) :
    Calls Try.prog 86 #[.agg #[.int .i64 N, .slice A n c]] w fun e w' => e = .returned (.bool (okB N L)) ∧ Bl w w' := by
  have K1 := Lib.hid H1
  have HN := Lib.hid hn
  clear H1 hn
  by_cases h1 : N < 1
  · go_enter Try.func86, Try.ntmps86
    go_wp2
    go_ret
    exact ⟨ret_bool (by simp [okB]; omega), (by repeat' (first | exact Bl.refl _ | with_reducible assumption | with_reducible refine Bl.drew_ ?_ | with_reducible refine Bl.drewN_ ?_ _ | with_reducible refine Bl.alloc_ ?_ _ | with_reducible refine Bl.trans_ ?_ (by assumption) | with_reducible refine Bl.trans_ ?_ (And.left (by assumption))))⟩
  · by_cases h2 : 24 < N
    · go_enter Try.func86, Try.ntmps86
      go_wp2
      go_ret
      exact ⟨ret_bool (by simp [okB]; omega), (by repeat' (first | exact Bl.refl _ | with_reducible assumption | with_reducible refine Bl.drew_ ?_ | with_reducible refine Bl.drewN_ ?_ _ | with_reducible refine Bl.alloc_ ?_ _ | with_reducible refine Bl.trans_ ?_ (by assumption) | with_reducible refine Bl.trans_ ?_ (And.left (by assumption))))⟩
    · by_cases h3 : 150 < n
      · have h3' : (150 : Int) < n := by omega
        go_enter Try.func86, Try.ntmps86
        go_wp2
        go_ret
        exact ⟨ret_bool (by have := HN.out; simp [okB]; omega), (by repeat' (first | exact Bl.refl _ | with_reducible assumption | with_reducible refine Bl.drew_ ?_ | with_reducible refine Bl.drewN_ ?_ _ | with_reducible refine Bl.alloc_ ?_ _ | with_reducible refine Bl.trans_ ?_ (by assumption) | with_reducible refine Bl.trans_ ?_ (And.left (by assumption))))⟩
      · have h3' : ¬ (150 : Int) < n := by omega
        go_enter Try.func86, Try.ntmps86
        go_wp2
        go_loopw [22] (fun i wr => ∃ k : Nat, k ≤ n ∧ i = .int .i64 k ∧ Bl (w.alloc (.cells #[.int .i64 N, .slice A n c] 33)) wr ∧ firstB N L k = true) (fun i _ => n - (intOf i).toNat)
        case atStart => exact ⟨0, by omega, rfl, Bl.refl _, rfl⟩
        case round =>
          obtain ⟨k, hk, rfl, hbl, hfb⟩ := hrel
          have hs := hbl.size
          have HB := Lib.hid hfb
          clear hfb
          by_cases hlt : k < n
          · have hkl : k < L.length := by have := HN.out; omega
            obtain ⟨g1, o1, rfl, hg1, hc1⟩ := K1.out (by omega)
            have hW : ∀ b o, b < w.heap.size → wr.cell? ⟨b, o, none⟩ = w.cell? ⟨b, o, none⟩ := (bcell ((Bl.alloc_ (Bl.refl w) _).trans_ hbl)).1
            obtain ⟨p1, p2, p3⟩ := hc1 k hkl
            rw [← hW _ _ hg1] at p1 p2 p3
            have q0 : wr.cell? ⟨w.heap.size, 0, none⟩ = some (.int .i64 N) := by rw [(bcell hbl).1 w.heap.size 0 (by simp)]; simp [go_sem]
            have q1 : wr.cell? ⟨w.heap.size, 1, none⟩ = some (.slice (some ⟨g1, o1, none⟩) n c) := by rw [(bcell hbl).1 w.heap.size 1 (by simp)]; simp [go_sem]
            have hs1 : w.heap.size < wr.heap.size := by simp at hs; omega
            have hs2 : g1 < wr.heap.size := by omega
            have HW := Lib.hid hW
            have HC := Lib.hid hc1
            clear hW hc1
            generalize hx : L[k].1 = x at p1
            generalize hy : L[k].2.1 = y at p2
            generalize hz : L[k].2.2 = z at p3
            have HX := Lib.hid hx
            have HY := Lib.hid hy
            have HZ := Lib.hid hz
            clear hx hy hz
            by_cases ha : arcB N x y z = true
            · have HT : ∀ wx, Bl (wr.alloc (.cells #[.int .i64 x, .int .i64 y, .int .i64 z] 146)) wx → ∀ b o, b < wr.heap.size → wx.cell? ⟨b, o, none⟩ = wr.cell? ⟨b, o, none⟩ := fun wx hb b o hlt => (bcell ((Bl.alloc_ (Bl.refl wr) _).trans_ hb)).1 b o hlt
              have HN1 : ∀ wx, Bl (wr.alloc (.cells #[.int .i64 x, .int .i64 y, .int .i64 z] 146)) wx → wx.cell? ⟨wr.heap.size, 0, none⟩ = some (.int .i64 x) ∧ wx.cell? ⟨wr.heap.size, 1, none⟩ = some (.int .i64 y) ∧ wx.cell? ⟨wr.heap.size, 2, none⟩ = some (.int .i64 z) := fun wx hb => by
                have hc := (bcell hb).1
                exact ⟨by rw [hc _ _ (by simp)]; simp [go_sem], by rw [hc _ _ (by simp)]; simp [go_sem], by rw [hc _ _ (by simp)]; simp [go_sem]⟩
              have T := Lib.hid HT
              have V := Lib.hid HN1
              clear HT HN1
              by_cases h0 : 0 < k
              · have hk1 : k - 1 < L.length := by omega
                obtain ⟨r1, r2, r3⟩ := HC.out (k - 1) hk1
                rw [← HW.out _ _ hg1] at r1 r2 r3
                generalize hx' : L[k-1].1 = x' at r1
                generalize hy' : L[k-1].2.1 = y' at r2
                generalize hz' : L[k-1].2.2 = z' at r3
                have HX' := Lib.hid hx'
                have HY' := Lib.hid hy'
                clear hx' hy' hz'
                have hstep : stepB N L k hkl = aheadB x' y' x y := by
                  unfold stepB
                  rw [HX.out, HY.out, HZ.out, ha, Bool.true_and, dif_pos h0, HX'.out, HY'.out]
                have hends := endsI_ahead x' y' x y
                have HSH := Lib.hid (show ∀ wx, Bl (wr.alloc (.cells #[.int .i64 x, .int .i64 y, .int .i64 z] 146)) wx → Bl (wr.alloc (.cells #[.int .i64 x, .int .i64 y, .int .i64 z] 146)) wx ∧ wx.cell? ⟨w.heap.size, 1, none⟩ = some (.slice (some ⟨g1, o1, none⟩) n c) ∧
                    wx.cell? ⟨g1, o1 + (k - 1) * 3, none⟩ = some (.int .i64 x') ∧ wx.cell? ⟨g1, o1 + (k - 1) * 3 + 1, none⟩ = some (.int .i64 y') ∧ wx.cell? ⟨g1, o1 + (k - 1) * 3 + 2, none⟩ = some (.int .i64 z') ∧
                    wx.cell? ⟨wr.heap.size, 0, none⟩ = some (.int .i64 x) ∧ wx.cell? ⟨wr.heap.size, 1, none⟩ = some (.int .i64 y) ∧ wx.cell? ⟨wr.heap.size, 2, none⟩ = some (.int .i64 z) from fun wx hb =>
                  ⟨hb, (T.out wx hb _ _ hs1).trans q1, (T.out wx hb _ _ hs2).trans r1, (T.out wx hb _ _ hs2).trans r2, (T.out wx hb _ _ hs2).trans r3, V.out wx hb⟩)
                have HST := Lib.hid hstep
                clear hstep r1 r2 r3
                by_cases hah : aheadB x' y' x y = true
                · have hd : decide (0 ≤ endsI x' y' x y) = false := by rw [hends, hah]; rfl
                  clear hends
                  have w1 : IntKind.i64.wrap ((k : Int) - 1) = (k : Int) - 1 := IntWalk.i64_in _ (by omega)
                  have w2 : (0 : Int) ≤ (k : Int) - 1 := by omega
                  have w5 : (1 : Int) ≤ (k : Int) := by omega
                  have w3 : (k : Int) - 1 < (n : Int) := by omega
                  have w4 : ((k : Int) - 1).toNat = k - 1 := by omega
                  go_wp2_with (go_at_call 129; refine (arcOk_any _ _ _ _ _ _).mono ?_; rintro e w' ⟨rfl, hb⟩; obtain ⟨hc, hf⟩ := bcell hb)
                  go_region_held3 (fun wx => Bl (wr.alloc (.cells #[.int .i64 x, .int .i64 y, .int .i64 z] 146)) wx ∧ wx.cell? ⟨w.heap.size, 1, none⟩ = some (.slice (some ⟨g1, o1, none⟩) n c) ∧
                    wx.cell? ⟨g1, o1 + (k - 1) * 3, none⟩ = some (.int .i64 x') ∧ wx.cell? ⟨g1, o1 + (k - 1) * 3 + 1, none⟩ = some (.int .i64 y') ∧ wx.cell? ⟨g1, o1 + (k - 1) * 3 + 2, none⟩ = some (.int .i64 z') ∧
                    wx.cell? ⟨wr.heap.size, 0, none⟩ = some (.int .i64 x) ∧ wx.cell? ⟨wr.heap.size, 1, none⟩ = some (.int .i64 y) ∧ wx.cell? ⟨wr.heap.size, 2, none⟩ = some (.int .i64 z)) (exact HSH.out _ (by repeat' (first | exact Bl.refl _ | with_reducible assumption | with_reducible refine Bl.drew_ ?_ | with_reducible refine Bl.drewN_ ?_ _ | with_reducible refine Bl.alloc_ ?_ _ | with_reducible refine Bl.trans_ ?_ (by assumption) | with_reducible refine Bl.trans_ ?_ (And.left (by assumption))))) (first | (go_at_call 130; refine (ends_any _ _ _ _ _ _ _).mono ?_; rintro e w' ⟨rfl, hb⟩; obtain ⟨hc, hf⟩ := bcell hb))
                  go_wp2
                  go_roundw
                  case rel =>
                    refine ⟨k + 1, by omega, by go_num, (by repeat' (first | exact Bl.refl _ | with_reducible assumption | with_reducible refine Bl.drew_ ?_ | with_reducible refine Bl.drewN_ ?_ _ | with_reducible refine Bl.alloc_ ?_ _ | with_reducible refine Bl.trans_ ?_ (by assumption) | with_reducible refine Bl.trans_ ?_ (And.left (by assumption)))), ?_⟩
                    rw [firstB_step hkl, HB.out, Bool.true_and, HST.out, hah]
                  case measure => simp [intOf]; omega
                · have hd : decide (0 ≤ endsI x' y' x y) = true := by rw [hends]; simpa using hah
                  clear hends
                  have w1 : IntKind.i64.wrap ((k : Int) - 1) = (k : Int) - 1 := IntWalk.i64_in _ (by omega)
                  have w2 : (0 : Int) ≤ (k : Int) - 1 := by omega
                  have w5 : (1 : Int) ≤ (k : Int) := by omega
                  have w3 : (k : Int) - 1 < (n : Int) := by omega
                  have w4 : ((k : Int) - 1).toNat = k - 1 := by omega
                  go_wp2_with (go_at_call 129; refine (arcOk_any _ _ _ _ _ _).mono ?_; rintro e w' ⟨rfl, hb⟩; obtain ⟨hc, hf⟩ := bcell hb)
                  go_region_held3 (fun wx => Bl (wr.alloc (.cells #[.int .i64 x, .int .i64 y, .int .i64 z] 146)) wx ∧ wx.cell? ⟨w.heap.size, 1, none⟩ = some (.slice (some ⟨g1, o1, none⟩) n c) ∧
                    wx.cell? ⟨g1, o1 + (k - 1) * 3, none⟩ = some (.int .i64 x') ∧ wx.cell? ⟨g1, o1 + (k - 1) * 3 + 1, none⟩ = some (.int .i64 y') ∧ wx.cell? ⟨g1, o1 + (k - 1) * 3 + 2, none⟩ = some (.int .i64 z') ∧
                    wx.cell? ⟨wr.heap.size, 0, none⟩ = some (.int .i64 x) ∧ wx.cell? ⟨wr.heap.size, 1, none⟩ = some (.int .i64 y) ∧ wx.cell? ⟨wr.heap.size, 2, none⟩ = some (.int .i64 z)) (exact HSH.out _ (by repeat' (first | exact Bl.refl _ | with_reducible assumption | with_reducible refine Bl.drew_ ?_ | with_reducible refine Bl.drewN_ ?_ _ | with_reducible refine Bl.alloc_ ?_ _ | with_reducible refine Bl.trans_ ?_ (by assumption) | with_reducible refine Bl.trans_ ?_ (And.left (by assumption))))) (first | (go_at_call 130; refine (ends_any _ _ _ _ _ _ _).mono ?_; rintro e w' ⟨rfl, hb⟩; obtain ⟨hc, hf⟩ := bcell hb))
                  go_wp2
                  go_ret
                  exact ⟨ret_bool (okB_no hkl (by rw [HST.out]; simpa using hah)).symm, (by repeat' (first | exact Bl.refl _ | with_reducible assumption | with_reducible refine Bl.drew_ ?_ | with_reducible refine Bl.drewN_ ?_ _ | with_reducible refine Bl.alloc_ ?_ _ | with_reducible refine Bl.trans_ ?_ (by assumption) | with_reducible refine Bl.trans_ ?_ (And.left (by assumption))))⟩
              · have h0' : decide ((0 : Int) < (k : Int)) = false := by simp; omega
                go_wp2_with (go_at_call 129; refine (arcOk_any _ _ _ _ _ _).mono ?_; rintro e w' ⟨rfl, hb⟩; obtain ⟨hc, hf⟩ := bcell hb)
                go_quiet (fail)
                go_wp2
                go_roundw
                case rel =>
                  refine ⟨k + 1, by omega, by go_num, (by repeat' (first | exact Bl.refl _ | with_reducible assumption | with_reducible refine Bl.drew_ ?_ | with_reducible refine Bl.drewN_ ?_ _ | with_reducible refine Bl.alloc_ ?_ _ | with_reducible refine Bl.trans_ ?_ (by assumption) | with_reducible refine Bl.trans_ ?_ (And.left (by assumption)))), ?_⟩
                  rw [firstB_step hkl, HB.out, Bool.true_and]
                  unfold stepB
                  rw [HX.out, HY.out, HZ.out, ha, Bool.true_and, dif_neg h0]
                case measure => simp [intOf]; omega
            · have ha' : arcB N x y z = false := by simpa using ha
              clear ha
              go_wp2_with (go_at_call 129; refine (arcOk_any _ _ _ _ _ _).mono ?_; rintro e w' ⟨rfl, hb⟩; obtain ⟨hc, hf⟩ := bcell hb)
              go_ret
              refine ⟨ret_bool (okB_no hkl ?_).symm, (by repeat' (first | exact Bl.refl _ | with_reducible assumption | with_reducible refine Bl.drew_ ?_ | with_reducible refine Bl.drewN_ ?_ _ | with_reducible refine Bl.alloc_ ?_ _ | with_reducible refine Bl.trans_ ?_ (by assumption) | with_reducible refine Bl.trans_ ?_ (And.left (by assumption))))⟩
              unfold stepB
              rw [HX.out, HY.out, HZ.out, ha', Bool.false_and]
          · go_wp2
            go_ret
            exact ⟨ret_bool (by have e := HN.out; rw [okB_yes (by rw [← e, show n = k by omega]; exact HB.out)]; simp; omega), (Bl.alloc_ (Bl.refl w) _).trans_ hbl⟩

end Go.Proofs.Ytlddileiecnkjaa
