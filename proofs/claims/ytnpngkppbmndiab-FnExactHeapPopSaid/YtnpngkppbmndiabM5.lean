/-
  What is proved here: the walk of the exact law on HeapPop. No conditions beyond those that each theorem states.
-/
import Derived.Test.YtnpngkppbmndiabJ10
set_option linter.unusedSimpArgs false
set_option linter.unusedVariables false
namespace Go.Proofs.Ytnpngkppbmndiab
open Go.RowKit

theorem popL_len (L : List It) : (popL L).length ≤ L.length := by
  unfold popL
  rw [downI_len, List.length_take, List.length_set]
  omega
theorem popRest_len (L : List It) : (popRest L).length ≤ L.length := by
  unfold popRest
  split
  · exact popL_len L
  · simp

set_option maxRecDepth 100000 in
set_option maxHeartbeats 2000000 in
theorem lawHeapPop_any (A : Option Addr) (n c : Nat) (L : List It) (hn : n = L.length) (w : World) (hm : n ≤ 9223372036854775807) (hwf : WfI L) (H1 : ItemsAt w w.heap.size A L) :
    Calls Try.prog 5 #[.slice A n c] w fun e w' => e = .returned (.bool true) ∧ Bl w w' := by
  have K1 := Lib.hid H1
  have HN := Lib.hid hn
  have HW := Lib.hid hwf
  clear H1 hn hwf
  by_cases hbig : (1048576 : Int) - n < 0
  · go_enter Try.func5, Try.ntmps5
    go_wp2_with (go_at_call 12; refine (szItemS_any _ _ _ _ _ hm (by omega) (by omega)).mono ?_; rintro e w' ⟨rfl, rfl⟩)
    go_ret
    exact ⟨rfl, (by repeat' (first | exact Bl.refl _ | with_reducible assumption | with_reducible refine Bl.drew_ ?_ | with_reducible refine Bl.drewN_ ?_ _ | with_reducible refine Bl.alloc_ ?_ _ | with_reducible refine Bl.trans_ ?_ (by assumption) | with_reducible refine Bl.trans_ ?_ (And.left (by assumption))))⟩
  · have hm' : n ≤ 1048576 := by omega
    clear hbig
    have p1 : (0 : Int) ≤ 1048576 - (n : Int) := by omega
    obtain ⟨r, hr⟩ : ∃ r, r = popB L := ⟨_, rfl⟩
    obtain ⟨l, hl⟩ : ∃ l, l = (popRest L).length := ⟨_, rfl⟩
    have hln : l ≤ 1048576 := by rw [hl]; exact Nat.le_trans (popRest_len L) (by have := HN.out; omega)
    obtain ⟨x, y, hxy⟩ : ∃ x y, popFirst L = (x, y) := ⟨_, _, rfl⟩
    have XY := Lib.hid hxy
    clear hxy
    have HR := Lib.hid hr
    have HL := Lib.hid hl
    clear hr hl
    have hrr : (r != r) = false := by simp
    have p2 : (0 : Int) ≤ 1 + ((n * 2 : Nat) : Int) := by omega
    have p3 : (0 : Int) ≤ 1 + ((l * 2 : Nat) : Int) := by omega
    have p4 : ((1 : Int) + ((l * 2 : Nat) : Int) != 1 + ((l * 2 : Nat) : Int)) = false := by simp
    obtain ⟨kk, hkk⟩ : ∃ kk : Int, kk = 1 + ((n * 2 : Nat) : Int) := ⟨_, rfl⟩
    obtain ⟨mm, hmm⟩ : ∃ mm : Int, mm = 1 + ((l * 2 : Nat) : Int) := ⟨_, rfl⟩
    rw [← hkk] at p2
    rw [← hmm] at p3 p4
    have KK := Lib.hid hkk
    have MM := Lib.hid hmm
    clear hkk hmm
    have MARKX := Lib.hid (fun (A : Option Addr) (c : Nat) (w : World) (h : ItemsW w A n) => show Calls Try.prog 20 #[.slice A n c, .int .i64 1] w (fun e w' => e = .returned (.int .i64 kk) ∧ w.grownBy w' (blockOf A)) from (markItemS_any A n c 1 w (by omega) (by omega) (by omega) h).mono (fun e w' ⟨he, _, hg, _⟩ => ⟨by rw [he, KK.out], hg⟩))
    have MARKG := Lib.hid (fun (A : Option Addr) (c : Nat) (w : World) (h : ItemsW w A l) => show Calls Try.prog 20 #[.slice A l c, .int .i64 1] w (fun e w' => e = .returned (.int .i64 mm) ∧ Marks w' A (l * 2) 1 ∧ w.grownBy w' (blockOf A)) from (markItemS_any A l c 1 w (by omega) (by omega) (by omega) h).mono (fun e w' ⟨he, hm, hg, _⟩ => ⟨by rw [he, MM.out], hm, hg⟩))
    have HELD := Lib.hid (fun (A : Option Addr) (c : Nat) (w : World) (h : Marks w A (l * 2) 1) => show Calls Try.prog 21 #[.slice A l c, .int .i64 1] w (fun e w' => e = .returned (.int .i64 mm) ∧ w = w') from (heldItemS_any A l c 1 w (by omega) (by omega) (by omega) h).mono (fun e w' ⟨he, hw⟩ => ⟨by rw [he, MM.out], hw⟩))
    have EQ := Lib.hid (fun (A B : Option Addr) (c d : Nat) (w : World) (h : ItemsAt w w.heap.size A (popRest L)) (k : ItemsAt w w.heap.size B (popRest L)) => show Calls Try.prog 16 #[.slice A l c, .slice B l d] w (fun e w' => e = .returned (.bool true) ∧ Bl w w') from eqItemS_yes A B c d _ l HL.out w (by omega) h k)
    have SP := Lib.hid (fun (A : Option Addr) (c : Nat) (w : World) (h : ItemsAt w w.heap.size A L) => show Calls Try.prog 22 #[.slice A n c] w (fun e w' => ∃ A0 c0, e = .returned (.tuple #[.slice A0 l c0, .agg #[.int .i64 x, .int .i64 y], .bool r]) ∧ ItemsAt w' w'.heap.size A0 (popRest L) ∧ Bl w w') from (specHeapPop_any A n c L HN.out w hm' h).mono (fun e w' ⟨v, he, ho, hb⟩ => by
      obtain ⟨A0, c0, rfl, _⟩ := Owns.shape ho
      exact ⟨A0, c0, by rw [he, HR.out, HL.out, XY.out], ho.at_, hb⟩))
    have IM := Lib.hid (fun (A : Option Addr) (c : Nat) (w : World) (h : ItemsAt w w.heap.size A L) => show Calls Try.prog 23 #[.slice A n c] w (fun e w' => ∃ A0 c0, e = .returned (.tuple #[.slice A0 l c0, .agg #[.int .i64 x, .int .i64 y], .bool r]) ∧ ItemsAt w' w'.heap.size A0 (popRest L) ∧ ItemsW w' A0 l ∧ (∀ g, blockOf A0 = some g → w.heap.size ≤ g ∧ g < w'.heap.size) ∧ Bl w w') from (implHeapPop_any A n c L HN.out w hm' HW.out h).mono (fun e w' ⟨v, he, ho, hb⟩ => by
      obtain ⟨A0, c0, rfl, _⟩ := Owns.shape ho
      exact ⟨A0, c0, by rw [he, HR.out, HL.out, XY.out], ho.at_, by rw [HL.out]; exact ho.rows_ rfl, Owns.lt_ ho, hb⟩))
    go_enter Try.func5, Try.ntmps5
    go_wp2_with fail
    refine (szItemS_small A n c _ hm').mono ?_
    rintro e w1 ⟨rfl, rfl⟩
    go_wp2_with fail
    refine (toItemS_any A n c L HN.out _ hm' K1.out).mono ?_
    rintro e w2 ⟨g2, rfl, ha2, hb2, -⟩
    have HA2 := Lib.hid ha2.at_
    clear ha2
    go_wp2_with fail
    refine (SP.out _ n _ HA2.out).mono ?_
    rintro e w3 ⟨A0, c0, rfl, hv0, hb3⟩
    have V0 := Lib.hid hv0
    have hb3 := hb2.trans_ hb3
    clear hv0 hb2
    go_wp2_with fail
    have U3 := Lib.hid (box2 (Bl.refl (w3.alloc (.cells #[.int .i64 x, .int .i64 y] 33))))
    have V0' := Lib.hid (ItemsAt.bl V0.out ((Bl.refl w3).alloc_ (.cells #[.int .i64 x, .int .i64 y] 33)))
    have hb3' := hb3.alloc_ (.cells #[.int .i64 x, .int .i64 y] 33)
    have z3 : w3.heap.size < (w3.alloc (.cells #[.int .i64 x, .int .i64 y] 33)).heap.size := by simp
    have zw := hb3.size
    clear V0 hb3
    generalize w3.alloc (.cells #[.int .i64 x, .int .i64 y] 33) = wa at *
    generalize w3.heap.size = b3 at *
    have V0 := V0'
    have hb3 := hb3'
    clear V0' hb3'
    have s3 := hb3.size
    refine (toItemS_any A n c L HN.out _ hm' (K1.out.bl hb3)).mono ?_
    rintro e w4 ⟨g4, rfl, ha4, hb4, -⟩
    have L4 := Lib.hid (Owns.lt_ ha4)
    have hg4 : wa.heap.size ≤ g4 ∧ g4 < w4.heap.size := L4.out g4 rfl
    have HA4 := Lib.hid ha4.at_
    have HR4 := Lib.hid (ha4.rows_ HN.out)
    have s4 := hb4.size
    clear ha4 L4
    go_wp2_with fail
    refine (IM.out _ n _ HA4.out).mono ?_
    rintro e w5 ⟨A1, c1, rfl, hv1, hr1, hg1, hb5⟩
    have V1 := Lib.hid hv1
    have R1 := Lib.hid hr1
    have G1 := Lib.hid hg1
    have s5 := hb5.size
    clear hv1 hr1 hg1
    go_wp2_with fail
    have U5 := Lib.hid (box2 (Bl.refl (w5.alloc (.cells #[.int .i64 x, .int .i64 y] 33))))
    have V1' := Lib.hid (ItemsAt.bl V1.out ((Bl.refl w5).alloc_ (.cells #[.int .i64 x, .int .i64 y] 33)))
    have R1' := Lib.hid (RowsW.bl R1.out ((Bl.refl w5).alloc_ (.cells #[.int .i64 x, .int .i64 y] 33)))
    have hb5' := hb5.alloc_ (.cells #[.int .i64 x, .int .i64 y] 33)
    have z5 : w5.heap.size < (w5.alloc (.cells #[.int .i64 x, .int .i64 y] 33)).heap.size := by simp
    clear V1 R1 hb5
    generalize w5.alloc (.cells #[.int .i64 x, .int .i64 y] 33) = wc at *
    generalize w5.heap.size = b5 at *
    have V1 := V1'
    have R1 := R1'
    have hb5 := hb5'
    clear V1' R1' hb5'
    have B35 := hb4.trans_ hb5
    have B05 := hb3.trans_ B35
    refine (EQ.out A1 A0 c1 c0 _ V1.out (V0.out.bl B35)).mono ?_
    rintro e w6 ⟨rfl, hb6⟩
    have s6 := hb6.size
    have s35 := B35.size
    have e1 := ((bcell (B35.trans_ hb6)).1 b3 0 (by omega)).trans U3.out.1
    have e2 := ((bcell (B35.trans_ hb6)).1 b3 1 (by omega)).trans U3.out.2
    have e3 := ((bcell hb6).1 b5 0 (by omega)).trans U5.out.1
    have e4 := ((bcell hb6).1 b5 1 (by omega)).trans U5.out.2
    go_wp2_with fail
    refine (eqItem_yes x y _).mono ?_
    rintro e w6b ⟨rfl, hb6b⟩
    have hb6 := hb6.trans_ hb6b
    clear e1 e2 e3 e4
    go_wp2_with fail
    refine (toItemS_any A n c L HN.out _ hm' (K1.out.bl (B05.trans_ hb6))).mono ?_
    rintro e w7 ⟨g7, rfl, ha7, hb7, -⟩
    have HA7 := Lib.hid ha7.at_
    clear ha7
    have B57 := hb6.trans_ hb7
    go_wp2_with fail
    refine (eqItemS_yes _ _ n n L n HN.out _ hm (HA4.out.bl (hb5.trans_ B57)) HA7.out).mono ?_
    rintro e w8 ⟨rfl, hb8⟩
    have B58 := B57.trans_ hb8
    have s8 := B58.size
    go_wp2_with fail
    refine (MARKX.out (some ⟨g4, 0, none⟩) n _ (RowsW.bl HR4.out (hb5.trans_ B58))).mono ?_
    rintro e w9 ⟨rfl, hgx⟩
    have X9 := Lib.hid hgx
    have s9 := hgx.size
    clear hgx
    have Q9 : Bl w w9 := (B05.trans_ B58).grown_ X9.out (fun g hg => by
      obtain rfl : g4 = g := by simpa [blockOf] using hg
      omega)
    have V09 := Lib.hid (((ItemsAt.bl' V0.out (Nat.le_refl _) (B35.trans_ B58))).grown_ (by omega) X9.out (fun g _ hlt => by simp [blockOf]; omega))
    have V19 := Lib.hid ((ItemsAt.bl' V1.out (Nat.le_refl _) B58).grown_ (by omega) X9.out (fun g hg _ => by have := G1.out g hg; simp [blockOf]; omega))
    have R19 := Lib.hid (RowsW.grown_ (RowsW.bl R1.out B58) X9.out (fun g hg => by have := G1.out g hg; simp [blockOf]; omega))
    go_wp2_with fail
    refine (EQ.out A1 A0 c1 c0 _ (V19.out.more (by omega)) (V09.out.more (by omega))).mono ?_
    rintro e w10 ⟨rfl, hb10⟩
    have s35 := B35.size
    have E3 := Lib.hid (show ∀ o v, wa.cell? ⟨b3, o, none⟩ = some v → w9.cell? ⟨b3, o, none⟩ = some v from fun o v h => X9.out.cell (((bcell (B35.trans_ B58)).1 b3 o (by omega)).trans h) (by simp [blockOf]; omega))
    have E5 := Lib.hid (show ∀ o v, wc.cell? ⟨b5, o, none⟩ = some v → w9.cell? ⟨b5, o, none⟩ = some v from fun o v h => X9.out.cell (((bcell B58).1 b5 o (by omega)).trans h) (by simp [blockOf]; omega))
    have e1 := ((bcell hb10).1 b3 0 (by omega)).trans (E3.out 0 _ U3.out.1)
    have e2 := ((bcell hb10).1 b3 1 (by omega)).trans (E3.out 1 _ U3.out.2)
    have e3 := ((bcell hb10).1 b5 0 (by omega)).trans (E5.out 0 _ U5.out.1)
    have e4 := ((bcell hb10).1 b5 1 (by omega)).trans (E5.out 1 _ U5.out.2)
    go_wp2_with fail
    refine (eqItem_yes x y _).mono ?_
    rintro e w10b ⟨rfl, hb10b⟩
    have hb10 := hb10.trans_ hb10b
    have s10 := hb10.size
    clear e1 e2 e3 e4 E5
    have e1 := ((bcell hb10).1 b3 0 (by omega)).trans (E3.out 0 _ U3.out.1)
    have e2 := ((bcell hb10).1 b3 1 (by omega)).trans (E3.out 1 _ U3.out.2)
    have E10 := Lib.hid (And.intro e1 e2)
    clear e1 e2 E3
    go_wp2_with fail
    refine (MARKG.out A1 c1 _ (RowsW.bl R19.out hb10)).mono ?_
    rintro e w11 ⟨rfl, hmk, hgg⟩
    have M11 := Lib.hid hmk
    have X11 := Lib.hid hgg
    have s11 := hgg.size
    clear hmk hgg
    have Q11 : Bl w w11 := (Q9.trans_ hb10).grown_ X11.out (fun g hg => by have := G1.out g hg; omega)
    have V011 := Lib.hid ((ItemsAt.bl' V09.out (by omega) hb10).grown_ (by omega) X11.out (fun g _ hlt h => by have := G1.out g h.symm; omega))
    go_wp2_with fail
    refine (HELD.out A1 c1 _ M11.out).mono ?_
    rintro e w12 ⟨rfl, rfl⟩
    go_wp2_with fail
    refine (toItemS_any A n c L HN.out _ hm' (K1.out.bl Q11)).mono ?_
    rintro e w12 ⟨g12, rfl, ha12, hb12, -⟩
    have HA12 := Lib.hid ha12.at_
    clear ha12
    go_wp2_with fail
    refine (IM.out _ n _ HA12.out).mono ?_
    rintro e w13 ⟨A2, c2, rfl, hv2, hr2, hg2, hb13⟩
    have V2 := Lib.hid hv2
    clear hv2 hr2 hg2
    have b13 := hb12.trans_ hb13
    have s13 := b13.size
    go_wp2_with fail
    have U13 := Lib.hid (box2 (Bl.refl (w13.alloc (.cells #[.int .i64 x, .int .i64 y] 33))))
    have V2' := Lib.hid (ItemsAt.bl V2.out ((Bl.refl w13).alloc_ (.cells #[.int .i64 x, .int .i64 y] 33)))
    have b13' := b13.alloc_ (.cells #[.int .i64 x, .int .i64 y] 33)
    have z13 : w13.heap.size < (w13.alloc (.cells #[.int .i64 x, .int .i64 y] 33)).heap.size := by simp
    clear V2 b13
    generalize w13.alloc (.cells #[.int .i64 x, .int .i64 y] 33) = wd at *
    generalize w13.heap.size = b13x at *
    have V2 := V2'
    have b13 := b13'
    clear V2' b13'
    have s13 := b13.size
    refine (EQ.out A2 A0 c2 c0 _ V2.out ((ItemsAt.bl' V011.out (by omega) b13).more (by omega))).mono ?_
    rintro e w14 ⟨rfl, hb14⟩
    have e1 := ((bcell (b13.trans_ hb14)).1 b3 0 (by omega)).trans (X11.out.cell E10.out.1 (fun h => by have := G1.out b3 h.symm; omega))
    have e2 := ((bcell (b13.trans_ hb14)).1 b3 1 (by omega)).trans (X11.out.cell E10.out.2 (fun h => by have := G1.out b3 h.symm; omega))
    have e3 := ((bcell hb14).1 b13x 0 (by omega)).trans U13.out.1
    have e4 := ((bcell hb14).1 b13x 1 (by omega)).trans U13.out.2
    go_wp2_with fail
    refine (eqItem_yes x y _).mono ?_
    rintro e w14b ⟨rfl, hb14b⟩
    have hb14 := hb14.trans_ hb14b
    clear e1 e2 e3 e4
    go_wp2_with fail
    refine (HELD.out A1 c1 _ (M11.out.bl (b13.trans_ hb14))).mono ?_
    rintro e w15 ⟨rfl, rfl⟩
    go_wp2
    go_ret
    exact ⟨rfl, Q11.trans_ (b13.trans_ hb14)⟩

end Go.Proofs.Ytnpngkppbmndiab
