/-
  What is proved here: the walk of the exact law on HeapPush. No conditions beyond those that each theorem states.
-/
import Derived.Test.YtnpngkppbmndiabJ11
set_option linter.unusedSimpArgs false
set_option linter.unusedVariables false
namespace Go.Proofs.Ytnpngkppbmndiab
open Go.RowKit

set_option maxRecDepth 100000 in
set_option maxHeartbeats 2000000 in
theorem lawHeapPush_any (A : Option Addr) (n c : Nat) (L : List It) (x y : Int) (hn : n = L.length) (w : World) (hm : n ≤ 9223372036854775807) (hwf : WfI L) (H1 : ItemsAt w w.heap.size A L) :
    Calls Try.prog 4 #[.slice A n c, .agg #[.int .i64 x, .int .i64 y]] w fun e w' => e = .returned (.bool true) ∧ Bl w w' := by
  have K1 := Lib.hid H1
  have HN := Lib.hid hn
  have HW := Lib.hid hwf
  clear H1 hn hwf
  by_cases hbig : (1048576 : Int) - n < 0
  · go_enter Try.func4, Try.ntmps4
    go_wp2_with (go_at_call 12; refine (szItemS_any _ _ _ _ _ hm (by omega) (by omega)).mono ?_; rintro e w' ⟨rfl, rfl⟩)
    go_ret
    exact ⟨rfl, (by repeat' (first | exact Bl.refl _ | with_reducible assumption | with_reducible refine Bl.drew_ ?_ | with_reducible refine Bl.drewN_ ?_ _ | with_reducible refine Bl.alloc_ ?_ _ | with_reducible refine Bl.trans_ ?_ (by assumption) | with_reducible refine Bl.trans_ ?_ (And.left (by assumption))))⟩
  · have hm' : n ≤ 1048576 := by omega
    clear hbig
    have p1 : (0 : Int) ≤ 1048576 - (n : Int) := by omega
    obtain ⟨r, hr⟩ : ∃ r, r = pushB L (x, y) := ⟨_, rfl⟩
    obtain ⟨l, hl⟩ : ∃ l, l = (pushR L (x, y)).length := ⟨_, rfl⟩
    have hln : l ≤ 1048576 := by rw [hl]; exact Nat.le_trans (pushR_len L (x, y)) (by omega)
    have HR := Lib.hid hr
    have HL := Lib.hid hl
    clear hr hl
    have hrr : (r != r) = false := by simp
    have p2 : (0 : Int) ≤ 1 + ((n * 2 : Nat) : Int) := by omega
    have p3 : (0 : Int) ≤ 1 + ((l * 2 : Nat) : Int) := by omega
    have p4 : ((1 : Int) + ((l * 2 : Nat) : Int) != 1 + ((l * 2 : Nat) : Int)) = false := by simp
    obtain ⟨kk, hkk⟩ : ∃ kk : Int, kk = 1 + ((n * 2 : Nat) : Int) := ⟨_, rfl⟩
    obtain ⟨mm, hmm⟩ : ∃ mm : Int, mm = 1 + ((l * 2 : Nat) : Int) := ⟨_, rfl⟩
    rw [← hkk] at p2
    rw [← hmm] at p3 p4
    have KK := Lib.hid hkk
    have MM := Lib.hid hmm
    clear hkk hmm
    have MARKX := Lib.hid (fun (A : Option Addr) (c : Nat) (w : World) (h : ItemsW w A n) => show Calls Try.prog 20 #[.slice A n c, .int .i64 1] w (fun e w' => e = .returned (.int .i64 kk) ∧ w.grownBy w' (blockOf A)) from (markItemS_any A n c 1 w (by omega) (by omega) (by omega) h).mono (fun e w' ⟨he, _, hg, _⟩ => ⟨by rw [he, KK.out], hg⟩))
    have MARKG := Lib.hid (fun (A : Option Addr) (c : Nat) (w : World) (h : ItemsW w A l) => show Calls Try.prog 20 #[.slice A l c, .int .i64 1] w (fun e w' => e = .returned (.int .i64 mm) ∧ Marks w' A (l * 2) 1 ∧ w.grownBy w' (blockOf A)) from (markItemS_any A l c 1 w (by omega) (by omega) (by omega) h).mono (fun e w' ⟨he, hm, hg, _⟩ => ⟨by rw [he, MM.out], hm, hg⟩))
    have HELD := Lib.hid (fun (A : Option Addr) (c : Nat) (w : World) (h : Marks w A (l * 2) 1) => show Calls Try.prog 21 #[.slice A l c, .int .i64 1] w (fun e w' => e = .returned (.int .i64 mm) ∧ w = w') from (heldItemS_any A l c 1 w (by omega) (by omega) (by omega) h).mono (fun e w' ⟨he, hw⟩ => ⟨by rw [he, MM.out], hw⟩))
    have EQ := Lib.hid (fun (A B : Option Addr) (c d : Nat) (w : World) (h : ItemsAt w w.heap.size A (pushR L (x, y))) (k : ItemsAt w w.heap.size B (pushR L (x, y))) => show Calls Try.prog 16 #[.slice A l c, .slice B l d] w (fun e w' => e = .returned (.bool true) ∧ Bl w w') from eqItemS_yes A B c d _ l HL.out w (by omega) h k)
    have SP := Lib.hid (fun (A : Option Addr) (c : Nat) (w : World) (h : ItemsAt w w.heap.size A L) => show Calls Try.prog 17 #[.slice A n c, .agg #[.int .i64 x, .int .i64 y]] w (fun e w' => ∃ A0 c0, e = .returned (.tuple #[.slice A0 l c0, .bool r]) ∧ ItemsAt w' w'.heap.size A0 (pushR L (x, y)) ∧ Bl w w') from (specHeapPush_any A n c L x y HN.out w hm' h).mono (fun e w' ⟨v, he, ho, hb⟩ => by
      obtain ⟨A0, c0, rfl, _⟩ := Owns.shape ho
      exact ⟨A0, c0, by rw [he, HR.out, HL.out], ho.at_, hb⟩))
    have IM := Lib.hid (fun (A : Option Addr) (c : Nat) (w : World) (h : ItemsAt w w.heap.size A L) => show Calls Try.prog 19 #[.slice A n c, .agg #[.int .i64 x, .int .i64 y]] w (fun e w' => ∃ A0 c0, e = .returned (.tuple #[.slice A0 l c0, .bool r]) ∧ ItemsAt w' w'.heap.size A0 (pushR L (x, y)) ∧ ItemsW w' A0 l ∧ (∀ g, blockOf A0 = some g → w.heap.size ≤ g ∧ g < w'.heap.size) ∧ Bl w w') from (implHeapPush_any A n c L x y HN.out w hm' HW.out h).mono (fun e w' ⟨v, he, ho, hb⟩ => by
      obtain ⟨A0, c0, rfl, _⟩ := Owns.shape ho
      exact ⟨A0, c0, by rw [he, HR.out, HL.out], ho.at_, by rw [HL.out]; exact ho.rows_ rfl, Owns.lt_ ho, hb⟩))
    go_enter Try.func4, Try.ntmps4
    go_wp2_with fail
    refine (szItemS_small A n c _ hm').mono ?_
    rintro e w1 ⟨rfl, rfl⟩
    have SH := Lib.hid (show ∀ wx, Bl (w.alloc (.cells #[.int .i64 x, .int .i64 y] 30)) wx → Bl (w.alloc (.cells #[.int .i64 x, .int .i64 y] 30)) wx ∧ wx.cell? ⟨w.heap.size, 0, none⟩ = some (.int .i64 x) ∧ wx.cell? ⟨w.heap.size, 1, none⟩ = some (.int .i64 y) from fun wx h => ⟨h, box2 h⟩)
    have KB := Lib.hid (fun wx (h : Bl (w.alloc (.cells #[.int .i64 x, .int .i64 y] 30)) wx) => ItemsAt.bl K1.out (((Bl.refl w).alloc_ _).trans_ h))
    go_wp2_with fail
    go_region_held3 (fun wx => Bl (w.alloc (.cells #[.int .i64 x, .int .i64 y] 30)) wx ∧ wx.cell? ⟨w.heap.size, 0, none⟩ = some (.int .i64 x) ∧ wx.cell? ⟨w.heap.size, 1, none⟩ = some (.int .i64 y)) (exact SH.out _ (by repeat' (first | exact Bl.refl _ | with_reducible assumption | with_reducible refine Bl.drew_ ?_ | with_reducible refine Bl.drewN_ ?_ _ | with_reducible refine Bl.alloc_ ?_ _ | with_reducible refine Bl.trans_ ?_ (by assumption) | with_reducible refine Bl.trans_ ?_ (And.left (by assumption))))) (first | (go_at_call 14; refine (toItemS_any A n c L HN.out _ hm' (KB.out _ (by repeat' (first | exact Bl.refl _ | with_reducible assumption | with_reducible refine Bl.drew_ ?_ | with_reducible refine Bl.drewN_ ?_ _ | with_reducible refine Bl.alloc_ ?_ _ | with_reducible refine Bl.trans_ ?_ (by assumption) | with_reducible refine Bl.trans_ ?_ (And.left (by assumption)))))).mono ?_; rintro e wy ⟨g2, rfl, ha2, hb2, -⟩; have HA2 := Lib.hid ha2.at_; clear ha2) | (go_at_call 18; refine (toItem_any x y _).mono ?_; rintro e wz ⟨rfl, hbz⟩) | (go_at_call 17; refine (SP.out _ n _ (ItemsAt.bl HA2.out (by repeat' (first | exact Bl.refl _ | with_reducible assumption | with_reducible refine Bl.drew_ ?_ | with_reducible refine Bl.drewN_ ?_ _ | with_reducible refine Bl.alloc_ ?_ _ | with_reducible refine Bl.trans_ ?_ (by assumption) | with_reducible refine Bl.trans_ ?_ (And.left (by assumption)))))).mono ?_; rintro e w3 ⟨A0, c0, rfl, hv0, hb3⟩; have V0 := Lib.hid hv0; clear hv0))
    all_goals
     have hx3 : Bl (w.alloc (.cells #[.int .i64 x, .int .i64 y] 30)) w3 := (by repeat' (first | exact Bl.refl _ | with_reducible assumption | with_reducible refine Bl.drew_ ?_ | with_reducible refine Bl.drewN_ ?_ _ | with_reducible refine Bl.alloc_ ?_ _ | with_reducible refine Bl.trans_ ?_ (by assumption) | with_reducible refine Bl.trans_ ?_ (And.left (by assumption))))
     have hb3 := ((Bl.refl w).alloc_ _).trans_ hx3
     have s3 := hb3.size
     obtain ⟨q0, q1⟩ := box2 hx3
     have hbx : w.heap.size < w3.heap.size := by have := hx3.size; simp at this; omega
     go_wp2_with fail
     refine (toItemS_any A n c L HN.out _ hm' (K1.out.bl hb3)).mono ?_
     rintro e w4 ⟨g4, rfl, ha4, hb4, -⟩
     have L4 := Lib.hid (Owns.lt_ ha4)
     have hg4 : w3.heap.size ≤ g4 ∧ g4 < w4.heap.size := L4.out g4 rfl
     have HA4 := Lib.hid ha4.at_
     have HR4 := Lib.hid (ha4.rows_ HN.out)
     have s4 := hb4.size
     clear ha4 L4
     obtain ⟨q0, q1⟩ := box2 (hx3.trans_ hb4)
     go_wp2_with fail
     refine (toItem_any x y _).mono ?_
     rintro e w4b ⟨rfl, hb4b⟩
     go_wp2_with fail
     refine (IM.out _ n _ (ItemsAt.bl HA4.out hb4b)).mono ?_
     rintro e w5 ⟨A1, c1, rfl, hv1, hr1, hg1, hb5⟩
     have hb5 := hb4b.trans_ hb5
     have s4b := hb4b.size
     have V1 := Lib.hid hv1
     have R1 := Lib.hid hr1
     have G1 := Lib.hid hg1
     have s5 := hb5.size
     clear hv1 hr1 hg1
     have B35 := hb4.trans_ hb5
     have B05 := hb3.trans_ B35
     go_wp2_with fail
     refine (EQ.out A1 A0 c1 c0 _ V1.out (V0.out.bl B35)).mono ?_
     rintro e w6 ⟨rfl, hb6⟩
     have s6 := hb6.size
     go_wp2_with fail
     refine (toItemS_any A n c L HN.out _ hm' (K1.out.bl (B05.trans_ hb6))).mono ?_
     rintro e w7 ⟨g7, rfl, ha7, hb7, -⟩
     have HA7 := Lib.hid ha7.at_
     clear ha7
     have B57 := hb6.trans_ hb7
     go_wp2_with fail
     refine (eqItemS_yes _ _ n n L n HN.out _ hm (HA4.out.bl (hb5.trans_ B57)) HA7.out).mono ?_
     rintro e w8 ⟨rfl, hb8⟩
     have B58 := B57.trans_ hb8
     have s8 := B58.size
     go_wp2_with fail
     refine (MARKX.out (some ⟨g4, 0, none⟩) n _ (RowsW.bl HR4.out (hb5.trans_ B58))).mono ?_
     rintro e w9 ⟨rfl, hgx⟩
     have X9 := Lib.hid hgx
     have s9 := hgx.size
     clear hgx
     have Q9 : Bl w w9 := (B05.trans_ B58).grown_ X9.out (fun g hg => by
       obtain rfl : g4 = g := by simpa [blockOf] using hg
       omega)
     have V09 := Lib.hid (((ItemsAt.bl' V0.out (Nat.le_refl _) (B35.trans_ B58))).grown_ (by omega) X9.out (fun g _ hlt => by simp [blockOf]; omega))
     have V19 := Lib.hid ((ItemsAt.bl' V1.out (Nat.le_refl _) B58).grown_ (by omega) X9.out (fun g hg _ => by have := G1.out g hg; simp [blockOf]; omega))
     have R19 := Lib.hid (RowsW.grown_ (RowsW.bl R1.out B58) X9.out (fun g hg => by have := G1.out g hg; simp [blockOf]; omega))
     go_wp2_with fail
     refine (EQ.out A1 A0 c1 c0 _ (V19.out.more (by omega)) (V09.out.more (by omega))).mono ?_
     rintro e w10 ⟨rfl, hb10⟩
     have s10 := hb10.size
     go_wp2_with fail
     refine (MARKG.out A1 c1 _ (RowsW.bl R19.out hb10)).mono ?_
     rintro e w11 ⟨rfl, hmk, hgg⟩
     have M11 := Lib.hid hmk
     have X11 := Lib.hid hgg
     have s11 := hgg.size
     clear hmk hgg
     have Q11 : Bl w w11 := (Q9.trans_ hb10).grown_ X11.out (fun g hg => by have := G1.out g hg; omega)
     have V011 := Lib.hid ((ItemsAt.bl' V09.out (by omega) hb10).grown_ (by omega) X11.out (fun g _ hlt h => by have := G1.out g h.symm; omega))
     go_wp2_with fail
     refine (HELD.out A1 c1 _ M11.out).mono ?_
     rintro e w12 ⟨rfl, rfl⟩
     have E11 := Lib.hid (show ∀ o v, w3.cell? ⟨w.heap.size, o, none⟩ = some v → w11.cell? ⟨w.heap.size, o, none⟩ = some v from fun o v h => X11.out.cell (((bcell hb10).1 _ o (by omega)).trans (X9.out.cell (((bcell (B35.trans_ B58)).1 _ o hbx).trans h) (by simp [blockOf]; omega))) (fun h => by have := G1.out w.heap.size h.symm; omega))
     have SH2 := Lib.hid (show ∀ wx, Bl w11 wx → Bl w11 wx ∧ wx.cell? ⟨w.heap.size, 0, none⟩ = some (.int .i64 x) ∧ wx.cell? ⟨w.heap.size, 1, none⟩ = some (.int .i64 y) from fun wx h => ⟨h, ((bcell h).1 _ _ (by omega)).trans (E11.out 0 _ (box2 hx3).1), ((bcell h).1 _ _ (by omega)).trans (E11.out 1 _ (box2 hx3).2)⟩)
     have KB2 := Lib.hid (fun wx (h : Bl w11 wx) => ItemsAt.bl K1.out (Q11.trans_ h))
     clear q0 q1
     go_wp2_with fail
     go_region_held3 (fun wx => Bl w11 wx ∧ wx.cell? ⟨w.heap.size, 0, none⟩ = some (.int .i64 x) ∧ wx.cell? ⟨w.heap.size, 1, none⟩ = some (.int .i64 y)) (exact SH2.out _ (by repeat' (first | exact Bl.refl _ | with_reducible assumption | with_reducible refine Bl.drew_ ?_ | with_reducible refine Bl.drewN_ ?_ _ | with_reducible refine Bl.alloc_ ?_ _ | with_reducible refine Bl.trans_ ?_ (by assumption) | with_reducible refine Bl.trans_ ?_ (And.left (by assumption))))) (first | (go_at_call 14; refine (toItemS_any A n c L HN.out _ hm' (KB2.out _ (by repeat' (first | exact Bl.refl _ | with_reducible assumption | with_reducible refine Bl.drew_ ?_ | with_reducible refine Bl.drewN_ ?_ _ | with_reducible refine Bl.alloc_ ?_ _ | with_reducible refine Bl.trans_ ?_ (by assumption) | with_reducible refine Bl.trans_ ?_ (And.left (by assumption)))))).mono ?_; rintro e wu ⟨g12, rfl, ha12, hbu, -⟩; have HA12 := Lib.hid ha12.at_; clear ha12) | (go_at_call 18; refine (toItem_any x y _).mono ?_; rintro e wv ⟨rfl, hbv⟩) | (go_at_call 19; refine (IM.out _ n _ (ItemsAt.bl HA12.out (by repeat' (first | exact Bl.refl _ | with_reducible assumption | with_reducible refine Bl.drew_ ?_ | with_reducible refine Bl.drewN_ ?_ _ | with_reducible refine Bl.alloc_ ?_ _ | with_reducible refine Bl.trans_ ?_ (by assumption) | with_reducible refine Bl.trans_ ?_ (And.left (by assumption)))))).mono ?_; rintro e w13 ⟨A2, c2, rfl, hv2, hr2, hg2, hbw⟩; have V2 := Lib.hid hv2; clear hv2 hr2 hg2))
     all_goals
      have b13 : Bl w11 w13 := (by repeat' (first | exact Bl.refl _ | with_reducible assumption | with_reducible refine Bl.drew_ ?_ | with_reducible refine Bl.drewN_ ?_ _ | with_reducible refine Bl.alloc_ ?_ _ | with_reducible refine Bl.trans_ ?_ (by assumption) | with_reducible refine Bl.trans_ ?_ (And.left (by assumption))))
      have s13 := b13.size
      go_wp2_with fail
      refine (EQ.out A2 A0 c2 c0 _ V2.out ((ItemsAt.bl' V011.out (by omega) b13).more (by omega))).mono ?_
      rintro e w14 ⟨rfl, hb14⟩
      go_wp2_with fail
      refine (HELD.out A1 c1 _ (M11.out.bl (b13.trans_ hb14))).mono ?_
      rintro e w15 ⟨rfl, rfl⟩
      go_wp2
      go_ret
      exact ⟨rfl, Q11.trans_ (b13.trans_ hb14)⟩

end Go.Proofs.Ytnpngkppbmndiab
