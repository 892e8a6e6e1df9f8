/-
  What is proved here: the program's way of doing an op to a disk. No conditions beyond those that each theorem states.
-/
import Derived.Test.YtipmjgciaalmbaaDKD4
import Derived.Test.YtipmjgciaalmbaaDKD3
set_option linter.unusedSimpArgs false
set_option linter.unusedVariables false
namespace Go.Proofs.Ytipmjgciaalmbaa
open Go.RowKit

/-- A box that holds an op. -/
def OpBx (w : World) (b : Nat) (o : Dp) : Prop := ∀ j u, (encO o)[j]? = some u → w.cell? ⟨b, j, none⟩ = some u
theorem OpBx.new (w : World) (q : Int) (a b d : ByteArray) (t : TypeId) : OpBx (w.alloc (.cells #[.int .i64 q, .string a, .string b, .string d] t)) w.heap.size ⟨q, a, b, d⟩ := fun j u hj => by
  rw [World.cell?_alloc_mark]
  match j, hj with
  | 0, hj => exact hj
  | 1, hj => exact hj
  | 2, hj => exact hj
  | 3, hj => exact hj
  | j + 4, hj => simp [encO] at hj
theorem OpBx.newOf {w0 w : World} (_ : Bl w0 w) (q : Int) (a b d : ByteArray) (t : TypeId) : OpBx (w.alloc (.cells #[.int .i64 q, .string a, .string b, .string d] t)) w.heap.size ⟨q, a, b, d⟩ := OpBx.new w q a b d t
theorem OpBx.bl {w w' : World} {b : Nat} {o : Dp} (h : OpBx w b o) (hb : Bl w w') : OpBx w' b o := fun j u hj => by
  have h1 := h j u hj
  exact ((bcell hb).1 _ _ (World.block_lt_of_cell? _ _ h1)).trans h1
set_option maxRecDepth 100000 in
set_option maxHeartbeats 16000000 in
theorem doNext_any {A1 A2 A3 : Option Addr} {n1 n2 n3 c1 c2 c3 : Nat} {L1 L2 : List Fl} {O : List Dp} (hb : DkB n1 n2 n3 L1 L2 O) (hd : diskB (L1, L2, O) = true) (o : Dp) (hos : o.data.size ≤ 1048576) (w : World) (H : DiskAt w w.heap.size A1 A2 A3 L1 L2 O) :
    Calls Try.prog 69 #[.agg #[.slice A1 n1 c1, .slice A2 n2 c2, .slice A3 n3 c3], .agg #[.int .i64 o.kind, .string o.name, .string o.to, .string o.data]] w (ActNew (actD (L1, L2, O) o) w) := by
  obtain ⟨q, a, b, d⟩ := o
  simp only at hos
  have KH := Lib.hid H
  have KB := Lib.hid hb
  obtain ⟨f1, f2, f3⟩ := files_parts (disk_live hd)
  have SO := Lib.hid (ord_sorted f3)
  have OO := Lib.hid f3
  simp only at f1 f2
  have hn1 : n1 ≤ 60 := by have := KB.out.l1; omega
  have hO2 : n3 ≤ 200 := by
    have h := hd
    unfold diskB at h
    simp only [Bool.and_eq_true, decide_eq_true_eq] at h
    have := KB.out.l3
    omega
  have hdl := do_len L1 ⟨q, a, b, d⟩
  have hdsm := do_sum L1 ⟨q, a, b, d⟩
  simp only at hdsm
  clear H hb hd f3
  obtain ⟨w0, hw0⟩ : ∃ x, x = ((w.alloc (.cells #[.slice A1 n1 c1, .slice A2 n2 c2, .slice A3 n3 c3] 31)).alloc (.cells #[.int .i64 q, .string a, .string b, .string d] 45)).alloc (.cells #[.slice none 0 0, .slice none 0 0, .slice none 0 0] 31) := ⟨_, rfl⟩
  have B0 := Lib.hid (show Bl w w0 from by rw [hw0]; exact (((Bl.refl w).alloc_ _).alloc_ _).alloc_ _)
  have s0 : w0.heap.size = w.heap.size + 1 + 1 + 1 := by rw [hw0]; simp
  have HSH := Lib.hid (show ∀ wx, Bl w0 wx → wx.cell? ⟨w.heap.size, 0, none⟩ = some (.slice A1 n1 c1) ∧ wx.cell? ⟨w.heap.size, 1, none⟩ = some (.slice A2 n2 c2) ∧ wx.cell? ⟨w.heap.size, 2, none⟩ = some (.slice A3 n3 c3) ∧ wx.cell? ⟨w.heap.size + 1, 0, none⟩ = some (.int .i64 q) ∧ wx.cell? ⟨w.heap.size + 1, 1, none⟩ = some (.string a) ∧ wx.cell? ⟨w.heap.size + 1, 2, none⟩ = some (.string b) ∧ wx.cell? ⟨w.heap.size + 1, 3, none⟩ = some (.string d) from fun wx hb => by
    rw [hw0] at hb
    obtain ⟨a1, a2, a3⟩ := box3 (Bl.trans_ (((Bl.refl (w.alloc (.cells #[.slice A1 n1 c1, .slice A2 n2 c2, .slice A3 n3 c3] 31))).alloc_ _).alloc_ _) hb)
    obtain ⟨b1, b2, b3, b4⟩ := box4 (Bl.trans_ ((Bl.refl ((w.alloc (.cells #[.slice A1 n1 c1, .slice A2 n2 c2, .slice A3 n3 c3] 31)).alloc (.cells #[.int .i64 q, .string a, .string b, .string d] 45))).alloc_ _) hb)
    simp only [World.size_alloc] at b1 b2 b3 b4
    exact ⟨a1, a2, a3, b1, b2, b3, b4⟩)
  have HRS := Lib.hid (show ∀ wx, Bl w0 wx → wx.cell? ⟨w.heap.size + 1 + 1, 0, none⟩ = some (.slice none 0 0) ∧ wx.cell? ⟨w.heap.size + 1 + 1, 1, none⟩ = some (.slice none 0 0) ∧ wx.cell? ⟨w.heap.size + 1 + 1, 2, none⟩ = some (.slice none 0 0) ∧ ∀ o, wx.frozen? ⟨w.heap.size + 1 + 1, o, none⟩ = false from fun wx hb => by
    rw [hw0] at hb
    obtain ⟨a1, a2, a3⟩ := box3 hb
    simp only [World.size_alloc] at a1 a2 a3
    exact ⟨a1, a2, a3, fun o => by rw [(bcell hb).2 _ _ (by simp)]; simp [go_sem]⟩)
  have K0 := Lib.hid (KH.out.bl B0.out)
  have I0 := Lib.hid (Bl.refl w0)
  show Calls Try.prog 69 #[.agg #[.slice A1 n1 c1, .slice A2 n2 c2, .slice A3 n3 c3], .agg #[.int .i64 q, .string a, .string b, .string d]] w _
  by_cases b1 : formB ⟨q, a, b, d⟩ = true
  · have HB1 := Lib.hid b1
    have TA := True.intro
    by_cases b2 : foundB L1 ⟨q, a, b, d⟩ = true
    · have HB2 := Lib.hid b2
      clear b1 b2
      go_enter Try.func69, Try.ntmps69
      go_wp2_with fail
      rw [← hw0]
      refine (opOf_any ⟨q, a, b, d⟩ _).mono ?_
      rintro e w1 ⟨⟨xo, rfl, hxo⟩, hb1⟩
      have I1 := Lib.hid (I0.out.trans_ hb1)
      obtain ⟨x10, x11, x12, y10, y11, y12, y13⟩ := HSH.out _ I1.out
      clear hb1 hw0
      rw [HB1.out]
      have HX := Lib.hid (hxo HB1.out)
      clear hxo
      go_wp2_with fail
      rw [HX.out]
      refine (finds_any A1 n1 c1 L1 KB.out.l1 ⟨q, a, b, d⟩ HB1.out _ (by omega) SO.out (KH.out.f1.bl (B0.out.trans_ I1.out))).mono ?_
      rintro e w2 ⟨rfl, hb2⟩
      have I2 := Lib.hid (I1.out.trans_ hb2)
      clear x10 x11 x12 y10 y11 y12 y13
      obtain ⟨x20, x21, x22, y20, y21, y22, y23⟩ := HSH.out _ I2.out
      clear hb2
      rw [HB2.out]
      go_wp2_with fail
      try rw [HX.out]
      refine (done_any A1 n1 c1 L1 KB.out.l1 ⟨q, a, b, d⟩ HB1.out _ (by omega) (by omega) (by simp only; omega) SO.out (KH.out.f1.bl (B0.out.trans_ I2.out))).mono ?_
      rintro e w3 ⟨v3, rfl, hv3, hb3⟩
      have I3 := Lib.hid (I2.out.trans_ hb3)
      clear x20 x21 x22 y20 y21 y22 y23
      obtain ⟨x30, x31, x32, y30, y31, y32, y33⟩ := HSH.out _ I3.out
      obtain ⟨A', c', rfl, hc', ha', -⟩ := own_shapeF hv3
      have F3 := Lib.hid ha'
      have V3 := Lib.hid hv3
      have z2' := I2.out.size
      obtain ⟨D, hD⟩ : ∃ D, D = doL L1 ⟨q, a, b, d⟩ := ⟨_, rfl⟩
      rw [← hD] at hdl hdsm hc' F3 V3
      have HD := Lib.hid hD
      rw [← hD]
      obtain ⟨m', hm'⟩ : ∃ m', m' = D.length := ⟨_, rfl⟩
      rw [← hm'] at hdl hc' V3
      rw [← hm']
      have HM' := Lib.hid hm'
      have h200 : ((n3 : Int) == 200) = decide (n3 = 200) := by
        rw [Bool.eq_iff_iff]; simp; omega
      clear hv3 ha' hD hm' hb3
      by_cases b3 : n3 = 200
      · have e200 : ((n3 : Int) == 200) = true := by rw [h200]; simpa using b3
        have HB3 := Lib.hid b3
        clear h200 b3
        go_wp2_with fail
        refine (sameDisk_any KB.out _ (KH.out.bl (B0.out.trans_ I3.out))).mono ?_
        rintro e wz ⟨vA, vB, vC, rfl, hIz⟩
        obtain ⟨PA, PB, PC, kA, eA, kB, eB, kC, eC, ⟨rfl, rfl, rfl⟩, -⟩ := hIz.opened'
        have J := Lib.hid hIz
        obtain ⟨z0, z1, z2, z3⟩ := HRS.out _ (I3.out.trans_ hIz.bl)
        have hsz := I3.out.size
        clear hIz
        go_wp2
        refine bodyPost_ret (v := .tuple #[.agg #[.slice PA kA eA, .slice PB kB eB, .slice PC kC eC], .int .i64 4]) (by simp [results, Try.results69, go_sem, z0, z1, z2]) rfl ⟨.slice PA kA eA, .slice PB kB eB, .slice PC kC eC, by rw [show (actD (L1, L2, O) ⟨q, a, b, d⟩).2 = 4 from by unfold actD; rw [if_neg (by rw [HB1.out]; simp), if_neg (by simp only; rw [HB2.out]; simp), if_pos (.inl (by simp only; rw [← KB.out.l3]; exact HB3.out))]], ?_⟩
        rw [show (actD (L1, L2, O) ⟨q, a, b, d⟩).1 = (L1, L2, O) from by unfold actD; rw [if_neg (by rw [HB1.out]; simp), if_neg (by simp only; rw [HB2.out]; simp), if_pos (.inl (by simp only; rw [← KB.out.l3]; exact HB3.out))]]
        exact J.out.fin (B0.out.trans_ I3.out) (b := w.heap.size + 1 + 1) (by omega) (by omega) _ _ _
      · have e200 : ((n3 : Int) == 200) = false := by rw [h200]; simpa using b3
        clear h200
        go_wp2_with fail
        refine (fits_any A' m' c' D HM'.out _ (by omega) (by omega) F3.out).mono ?_
        rintro e w4 ⟨rfl, hb4⟩
        have V4 := Lib.hid (V3.out.bl hb4)
        have I4 := Lib.hid (I3.out.trans_ hb4)
        clear x30 x31 x32 y30 y31 y32 y33
        obtain ⟨x40, x41, x42, y40, y41, y42, y43⟩ := HSH.out _ I4.out
        clear hb4
        by_cases b4 : fitsB D = true
        · have HB4 := Lib.hid b4
          rw [b4]
          have HA := Lib.hid (show actD (L1, L2, O) ⟨q, a, b, d⟩ = ((D, L2, O ++ [⟨q, a, b, d⟩]), 0) from by unfold actD; rw [if_neg (by rw [HB1.out]; simp), if_neg (by simp only; rw [HB2.out]; simp), if_neg (by simp only; rintro (h | h); exact b3 (by rw [KB.out.l3]; exact h); rw [← HD.out, HB4.out] at h; exact absurd h (by simp)), ← HD.out])
          clear b4
          have hl3 : O.length ≤ 1048575 := by have := KB.out.l3; omega
          have I := Lib.hid (show In3 w0 w4.drew (.slice A' m' c') nilV nilV D [] [] from
            ⟨((V4.out.bl (Bl.drew_ (Bl.refl w4)))).low (by omega), Owns.nil_ _ _ _ _, Owns.nil_ _ _ _ _, I4.out.drew_, (fun g h1 h2 => by cases h2), (fun g h1 h2 => by cases h2), (fun g h1 h2 => by cases h2)⟩)
          go_wp2_with fail
          refine wp_region_held_drew (S := fun wx => wx.cell? ⟨w.heap.size, 0, none⟩ = some (.slice A1 n1 c1) ∧ wx.cell? ⟨w.heap.size, 1, none⟩ = some (.slice A2 n2 c2) ∧ wx.cell? ⟨w.heap.size, 2, none⟩ = some (.slice A3 n3 c3) ∧ wx.cell? ⟨w.heap.size + 1, 0, none⟩ = some (.int .i64 q) ∧ wx.cell? ⟨w.heap.size + 1, 1, none⟩ = some (.string a) ∧ wx.cell? ⟨w.heap.size + 1, 2, none⟩ = some (.string b) ∧ wx.cell? ⟨w.heap.size + 1, 3, none⟩ = some (.string d)) (by kernel_rfl) (HSH.out _ I.out.bl) (fun hHeld => ?_)
          clear x40 x41 x42 y40 y41 y42 y43
          refine wpAnyH_take (i := 0) (v := ?_) rfl (by kernel_rfl) (by kernel_rfl) (by kernel_rfl) (fun _ _ _ h => h) (Or.inl ⟨by kernel_rfl, ?_⟩) (by assumption) ?_
          rotate_left
          · (intro wx hSw; (try dsimp only at hSw); go_simp; try (with_reducible rfl))
          try simp only [Act.put, List.getElem_toArray, List.getElem_cons_succ, List.getElem_cons_zero, List.setIfInBounds_toArray, List.set_cons_zero, List.set_cons_succ]
          refine wpAnyH_take (i := 1) (v := ?_) rfl (by kernel_rfl) (by kernel_rfl) (by kernel_rfl) (fun _ _ _ h => h) (Or.inl ⟨by kernel_rfl, ?_⟩) (by assumption) ?_
          rotate_left
          · (intro wx hSw; (try dsimp only at hSw); go_simp; try (with_reducible rfl))
          try simp only [Act.put, List.getElem_toArray, List.getElem_cons_succ, List.getElem_cons_zero, List.setIfInBounds_toArray, List.set_cons_zero, List.set_cons_succ]
          refine wpAnyH_take (i := 2) (v := ?_) rfl (by kernel_rfl) (by kernel_rfl) (by kernel_rfl) (fun _ _ _ h => h) (Or.inl ⟨by kernel_rfl, ?_⟩) (by assumption) ?_
          rotate_left
          · (intro wx hSw; (try dsimp only at hSw); go_simp; try (with_reducible rfl))
          try simp only [Act.put, List.getElem_toArray, List.getElem_cons_succ, List.getElem_cons_zero, List.setIfInBounds_toArray, List.set_cons_zero, List.set_cons_succ]
          refine wpAnyH_take (i := 4) (v := ?_) rfl (by kernel_rfl) (by kernel_rfl) (by kernel_rfl) (fun _ _ _ h => h) (Or.inl ⟨by kernel_rfl, ?_⟩) (by assumption) ?_
          rotate_left
          · (intro wx hSw; (try dsimp only at hSw); go_simp; try (with_reducible rfl))
          try simp only [Act.put, List.getElem_toArray, List.getElem_cons_succ, List.getElem_cons_zero, List.setIfInBounds_toArray, List.set_cons_zero, List.set_cons_succ]
          refine wpAnyH_take (i := 5) (v := ?_) rfl (by kernel_rfl) (by kernel_rfl) (by kernel_rfl) (fun _ _ _ h => h) (Or.inl ⟨by kernel_rfl, ?_⟩) (by assumption) ?_
          rotate_left
          · (intro wx hSw; (try dsimp only at hSw); go_simp; try (with_reducible rfl))
          try simp only [Act.put, List.getElem_toArray, List.getElem_cons_succ, List.getElem_cons_zero, List.setIfInBounds_toArray, List.set_cons_zero, List.set_cons_succ]
          refine wpAnyH_take (i := 7) (v := ?_) rfl (by kernel_rfl) (by kernel_rfl) (by kernel_rfl) (fun _ _ _ h => h) (Or.inl ⟨by kernel_rfl, ?_⟩) (by assumption) ?_
          rotate_left
          · (intro wx hSw; (try dsimp only at hSw); go_simp; try (with_reducible rfl))
          try simp only [Act.put, List.getElem_toArray, List.getElem_cons_succ, List.getElem_cons_zero, List.setIfInBounds_toArray, List.set_cons_zero, List.set_cons_succ]
          refine wpAnyH_ready (rs := [3, 8]) (by kernel_rfl) (by simp) ?_
          refine (AllReadyH.cons rfl (fun K hK => ?_) (AllReadyH.cons rfl (fun K hK => ?_) AllReadyH.nil))
          · go_simp
            (go_at_call 101; refine (cloneF_any A2 n2 c2 L2 KB.out.l2 _ KB.out.m2 (K0.out.f2.bl I.out.bl)).mono ?_; rintro e wx ⟨v, rfl, hv, hbx⟩)
            obtain ⟨PB, eB, rfl, -⟩ := Owns.shape (show Owns _ _ _ _ _ _ _ from hv)
            have J := Lib.hid (In3.putB I.out hv hbx)
            try (have OC' := Lib.hid (OC.out.bl hbx); clear OC; have OC := OC'; clear OC')
            have hS := Lib.hid (HSH.out _ J.out.bl)
            clear I hv hbx
            have I := J
            clear J
            try (go_wp2_with fail)
            refine hK.out _ _ hS.out (fun hHeld => ?_)
            clear hK K hS
            try simp only [Act.put, List.getElem_toArray, List.getElem_cons_succ, List.getElem_cons_zero, List.setIfInBounds_toArray, List.set_cons_zero, List.set_cons_succ]
            refine wpAnyH_ready (rs := [6, 8]) (by kernel_rfl) (by simp) ?_
            refine (AllReadyH.cons rfl (fun K hK => ?_) (AllReadyH.cons rfl (fun K hK => ?_) AllReadyH.nil))
            · go_simp
              (go_at_call 106; refine (cloneO_any A3 n3 c3 O KB.out.l3 _ KB.out.m3 (K0.out.f3.bl I.out.bl)).mono ?_; rintro e wx ⟨v, rfl, hv, hbx⟩)
              obtain ⟨PC, eC, rfl, -⟩ := Owns.shape (show Owns _ _ _ _ _ _ _ from hv)
              have J := Lib.hid (In3.putC I.out hv hbx)
              try (have OC' := Lib.hid (OC.out.bl hbx); clear OC; have OC := OC'; clear OC')
              have hS := Lib.hid (HSH.out _ J.out.bl)
              clear I hv hbx
              have I := J
              clear J
              try (go_wp2_with fail)
              refine hK.out _ _ hS.out (fun hHeld => ?_)
              clear hK K hS
              try simp only [Act.put, List.getElem_toArray, List.getElem_cons_succ, List.getElem_cons_zero, List.setIfInBounds_toArray, List.set_cons_zero, List.set_cons_succ]
              refine wpAnyH_ready (rs := [8]) (by kernel_rfl) (by simp) ?_
              refine (AllReadyH.cons rfl (fun K hK => ?_) AllReadyH.nil)
              have OC := Lib.hid (OpBx.newOf I.out.bl q a b d 45)
              have J := Lib.hid (I.out.blx ((Bl.refl _).alloc_ (.cells #[.int .i64 q, .string a, .string b, .string d] 45)))
              have hS := Lib.hid (HSH.out _ J.out.bl)
              clear I
              have I := J
              clear J
              go_simp
              refine hK.out _ _ hS.out (fun hHeld => ?_)
              clear hK K hS
              try simp only [Act.put, List.getElem_toArray, List.getElem_cons_succ, List.getElem_cons_zero, List.setIfInBounds_toArray, List.set_cons_zero, List.set_cons_succ]
              refine wpAnyH_ready (rs := [9]) (by kernel_rfl) (by simp) ?_
              refine (AllReadyH.cons rfl (fun K hK => ?_) AllReadyH.nil)
              refine In3.stepSnoc rfl (.tmp 46) (.tmp 48) rfl I.out ⟨q, a, b, d⟩ _ (by simp [Act.eval, Act.put]; try rfl) (by simp [Act.eval, Act.put]; try rfl) hl3 OC.out ?_
              intro PC kC eC wx hJ _ _
              have J := Lib.hid hJ
              have hS := Lib.hid (HSH.out _ J.out.bl)
              clear I hJ
              have I := J
              clear J
              refine hK.out _ _ hS.out (fun hHeld => ?_)
              clear hK K hS
              try simp only [Act.put, List.getElem_toArray, List.getElem_cons_succ, List.getElem_cons_zero, List.setIfInBounds_toArray, List.set_cons_zero, List.set_cons_succ]
              refine wpAnyH_take (i := 10) (v := ?_) rfl (by kernel_rfl) (by kernel_rfl) (by kernel_rfl) (fun _ _ _ h => h) (Or.inl ⟨by kernel_rfl, ?_⟩) (by assumption) ?_
              rotate_left
              · (intro wx hSw; (try dsimp only at hSw); go_simp; try (with_reducible rfl))
              try simp only [Act.put, List.getElem_toArray, List.getElem_cons_succ, List.getElem_cons_zero, List.setIfInBounds_toArray, List.set_cons_zero, List.set_cons_succ]
              refine wpAnyH_ready (rs := [11]) (by kernel_rfl) (by simp) ?_
              refine (AllReadyH.cons rfl (fun K hK => ?_) AllReadyH.nil)
              obtain ⟨z0, z1, z2, f0⟩ := HRS.out _ I.out.bl
              go_simp
              refine hK.out _ _ ?_ (fun hHeld => ?_)
              · simp only [World.cell?_setCell_other _ _ _ _ (show (⟨w.heap.size + 1 + 1, 0, none⟩ : Addr) ≠ ⟨w.heap.size, _, none⟩ from by simp), World.cell?_setCell_other _ _ _ _ (show (⟨w.heap.size + 1 + 1, 1, none⟩ : Addr) ≠ ⟨w.heap.size, _, none⟩ from by simp), World.cell?_setCell_other _ _ _ _ (show (⟨w.heap.size + 1 + 1, 2, none⟩ : Addr) ≠ ⟨w.heap.size, _, none⟩ from by simp), World.cell?_setCell_other _ _ _ _ (show (⟨w.heap.size + 1 + 1, 0, none⟩ : Addr) ≠ ⟨w.heap.size + 1, _, none⟩ from by simp), World.cell?_setCell_other _ _ _ _ (show (⟨w.heap.size + 1 + 1, 1, none⟩ : Addr) ≠ ⟨w.heap.size + 1, _, none⟩ from by simp), World.cell?_setCell_other _ _ _ _ (show (⟨w.heap.size + 1 + 1, 2, none⟩ : Addr) ≠ ⟨w.heap.size + 1, _, none⟩ from by simp)]; exact HSH.out _ I.out.bl
              clear hK K
              try simp only [Act.put, List.getElem_toArray, List.getElem_cons_succ, List.getElem_cons_zero, List.setIfInBounds_toArray, List.set_cons_zero, List.set_cons_succ]
              refine wpAnyH_take (i := 12) (v := ?_) rfl (by kernel_rfl) (by kernel_rfl) (by kernel_rfl) (fun _ _ _ h => h) (Or.inl ⟨by kernel_rfl, ?_⟩) (by assumption) ?_
              rotate_left
              · (intro wx hSw; (try dsimp only at hSw); go_simp; try (with_reducible rfl))
              try simp only [Act.put, List.getElem_toArray, List.getElem_cons_succ, List.getElem_cons_zero, List.setIfInBounds_toArray, List.set_cons_zero, List.set_cons_succ]
              refine wpAnyH_done (by kernel_rfl) ?_ _
              go_wp2
              refine bodyPost_ret (v := .tuple #[.agg #[.slice A' m' c', .slice PB L2.length eB, .slice PC kC eC], .int .i64 0]) (by simp [results, Try.results69, go_sem, z0, z1, z2]) rfl ⟨.slice A' m' c', .slice PB L2.length eB, .slice PC kC eC, by rw [HA.out], ?_⟩
              rw [HA.out]
              exact I.out.fin B0.out (b := w.heap.size + 1 + 1) (by omega) (by omega) _ _ _
            · have OC := Lib.hid (OpBx.newOf I.out.bl q a b d 45)
              have J := Lib.hid (I.out.blx ((Bl.refl _).alloc_ (.cells #[.int .i64 q, .string a, .string b, .string d] 45)))
              have hS := Lib.hid (HSH.out _ J.out.bl)
              clear I
              have I := J
              clear J
              go_simp
              refine hK.out _ _ hS.out (fun hHeld => ?_)
              clear hK K hS
              try simp only [Act.put, List.getElem_toArray, List.getElem_cons_succ, List.getElem_cons_zero, List.setIfInBounds_toArray, List.set_cons_zero, List.set_cons_succ]
              refine wpAnyH_ready (rs := [6]) (by kernel_rfl) (by simp) ?_
              refine (AllReadyH.cons rfl (fun K hK => ?_) AllReadyH.nil)
              go_simp
              (go_at_call 106; refine (cloneO_any A3 n3 c3 O KB.out.l3 _ KB.out.m3 (K0.out.f3.bl I.out.bl)).mono ?_; rintro e wx ⟨v, rfl, hv, hbx⟩)
              obtain ⟨PC, eC, rfl, -⟩ := Owns.shape (show Owns _ _ _ _ _ _ _ from hv)
              have J := Lib.hid (In3.putC I.out hv hbx)
              try (have OC' := Lib.hid (OC.out.bl hbx); clear OC; have OC := OC'; clear OC')
              have hS := Lib.hid (HSH.out _ J.out.bl)
              clear I hv hbx
              have I := J
              clear J
              try (go_wp2_with fail)
              refine hK.out _ _ hS.out (fun hHeld => ?_)
              clear hK K hS
              try simp only [Act.put, List.getElem_toArray, List.getElem_cons_succ, List.getElem_cons_zero, List.setIfInBounds_toArray, List.set_cons_zero, List.set_cons_succ]
              refine wpAnyH_ready (rs := [9]) (by kernel_rfl) (by simp) ?_
              refine (AllReadyH.cons rfl (fun K hK => ?_) AllReadyH.nil)
              refine In3.stepSnoc rfl (.tmp 46) (.tmp 48) rfl I.out ⟨q, a, b, d⟩ _ (by simp [Act.eval, Act.put]; try rfl) (by simp [Act.eval, Act.put]; try rfl) hl3 OC.out ?_
              intro PC kC eC wx hJ _ _
              have J := Lib.hid hJ
              have hS := Lib.hid (HSH.out _ J.out.bl)
              clear I hJ
              have I := J
              clear J
              refine hK.out _ _ hS.out (fun hHeld => ?_)
              clear hK K hS
              try simp only [Act.put, List.getElem_toArray, List.getElem_cons_succ, List.getElem_cons_zero, List.setIfInBounds_toArray, List.set_cons_zero, List.set_cons_succ]
              refine wpAnyH_take (i := 10) (v := ?_) rfl (by kernel_rfl) (by kernel_rfl) (by kernel_rfl) (fun _ _ _ h => h) (Or.inl ⟨by kernel_rfl, ?_⟩) (by assumption) ?_
              rotate_left
              · (intro wx hSw; (try dsimp only at hSw); go_simp; try (with_reducible rfl))
              try simp only [Act.put, List.getElem_toArray, List.getElem_cons_succ, List.getElem_cons_zero, List.setIfInBounds_toArray, List.set_cons_zero, List.set_cons_succ]
              refine wpAnyH_ready (rs := [11]) (by kernel_rfl) (by simp) ?_
              refine (AllReadyH.cons rfl (fun K hK => ?_) AllReadyH.nil)
              obtain ⟨z0, z1, z2, f0⟩ := HRS.out _ I.out.bl
              go_simp
              refine hK.out _ _ ?_ (fun hHeld => ?_)
              · simp only [World.cell?_setCell_other _ _ _ _ (show (⟨w.heap.size + 1 + 1, 0, none⟩ : Addr) ≠ ⟨w.heap.size, _, none⟩ from by simp), World.cell?_setCell_other _ _ _ _ (show (⟨w.heap.size + 1 + 1, 1, none⟩ : Addr) ≠ ⟨w.heap.size, _, none⟩ from by simp), World.cell?_setCell_other _ _ _ _ (show (⟨w.heap.size + 1 + 1, 2, none⟩ : Addr) ≠ ⟨w.heap.size, _, none⟩ from by simp), World.cell?_setCell_other _ _ _ _ (show (⟨w.heap.size + 1 + 1, 0, none⟩ : Addr) ≠ ⟨w.heap.size + 1, _, none⟩ from by simp), World.cell?_setCell_other _ _ _ _ (show (⟨w.heap.size + 1 + 1, 1, none⟩ : Addr) ≠ ⟨w.heap.size + 1, _, none⟩ from by simp), World.cell?_setCell_other _ _ _ _ (show (⟨w.heap.size + 1 + 1, 2, none⟩ : Addr) ≠ ⟨w.heap.size + 1, _, none⟩ from by simp)]; exact HSH.out _ I.out.bl
              clear hK K
              try simp only [Act.put, List.getElem_toArray, List.getElem_cons_succ, List.getElem_cons_zero, List.setIfInBounds_toArray, List.set_cons_zero, List.set_cons_succ]
              refine wpAnyH_take (i := 12) (v := ?_) rfl (by kernel_rfl) (by kernel_rfl) (by kernel_rfl) (fun _ _ _ h => h) (Or.inl ⟨by kernel_rfl, ?_⟩) (by assumption) ?_
              rotate_left
              · (intro wx hSw; (try dsimp only at hSw); go_simp; try (with_reducible rfl))
              try simp only [Act.put, List.getElem_toArray, List.getElem_cons_succ, List.getElem_cons_zero, List.setIfInBounds_toArray, List.set_cons_zero, List.set_cons_succ]
              refine wpAnyH_done (by kernel_rfl) ?_ _
              go_wp2
              refine bodyPost_ret (v := .tuple #[.agg #[.slice A' m' c', .slice PB L2.length eB, .slice PC kC eC], .int .i64 0]) (by simp [results, Try.results69, go_sem, z0, z1, z2]) rfl ⟨.slice A' m' c', .slice PB L2.length eB, .slice PC kC eC, by rw [HA.out], ?_⟩
              rw [HA.out]
              exact I.out.fin B0.out (b := w.heap.size + 1 + 1) (by omega) (by omega) _ _ _
          · have OC := Lib.hid (OpBx.newOf I.out.bl q a b d 45)
            have J := Lib.hid (I.out.blx ((Bl.refl _).alloc_ (.cells #[.int .i64 q, .string a, .string b, .string d] 45)))
            have hS := Lib.hid (HSH.out _ J.out.bl)
            clear I
            have I := J
            clear J
            go_simp
            refine hK.out _ _ hS.out (fun hHeld => ?_)
            clear hK K hS
            try simp only [Act.put, List.getElem_toArray, List.getElem_cons_succ, List.getElem_cons_zero, List.setIfInBounds_toArray, List.set_cons_zero, List.set_cons_succ]
            refine wpAnyH_ready (rs := [3]) (by kernel_rfl) (by simp) ?_
            refine (AllReadyH.cons rfl (fun K hK => ?_) AllReadyH.nil)
            go_simp
            (go_at_call 101; refine (cloneF_any A2 n2 c2 L2 KB.out.l2 _ KB.out.m2 (K0.out.f2.bl I.out.bl)).mono ?_; rintro e wx ⟨v, rfl, hv, hbx⟩)
            obtain ⟨PB, eB, rfl, -⟩ := Owns.shape (show Owns _ _ _ _ _ _ _ from hv)
            have J := Lib.hid (In3.putB I.out hv hbx)
            try (have OC' := Lib.hid (OC.out.bl hbx); clear OC; have OC := OC'; clear OC')
            have hS := Lib.hid (HSH.out _ J.out.bl)
            clear I hv hbx
            have I := J
            clear J
            try (go_wp2_with fail)
            refine hK.out _ _ hS.out (fun hHeld => ?_)
            clear hK K hS
            try simp only [Act.put, List.getElem_toArray, List.getElem_cons_succ, List.getElem_cons_zero, List.setIfInBounds_toArray, List.set_cons_zero, List.set_cons_succ]
            refine wpAnyH_ready (rs := [6]) (by kernel_rfl) (by simp) ?_
            refine (AllReadyH.cons rfl (fun K hK => ?_) AllReadyH.nil)
            go_simp
            (go_at_call 106; refine (cloneO_any A3 n3 c3 O KB.out.l3 _ KB.out.m3 (K0.out.f3.bl I.out.bl)).mono ?_; rintro e wx ⟨v, rfl, hv, hbx⟩)
            obtain ⟨PC, eC, rfl, -⟩ := Owns.shape (show Owns _ _ _ _ _ _ _ from hv)
            have J := Lib.hid (In3.putC I.out hv hbx)
            try (have OC' := Lib.hid (OC.out.bl hbx); clear OC; have OC := OC'; clear OC')
            have hS := Lib.hid (HSH.out _ J.out.bl)
            clear I hv hbx
            have I := J
            clear J
            try (go_wp2_with fail)
            refine hK.out _ _ hS.out (fun hHeld => ?_)
            clear hK K hS
            try simp only [Act.put, List.getElem_toArray, List.getElem_cons_succ, List.getElem_cons_zero, List.setIfInBounds_toArray, List.set_cons_zero, List.set_cons_succ]
            refine wpAnyH_ready (rs := [9]) (by kernel_rfl) (by simp) ?_
            refine (AllReadyH.cons rfl (fun K hK => ?_) AllReadyH.nil)
            refine In3.stepSnoc rfl (.tmp 46) (.tmp 48) rfl I.out ⟨q, a, b, d⟩ _ (by simp [Act.eval, Act.put]; try rfl) (by simp [Act.eval, Act.put]; try rfl) hl3 OC.out ?_
            intro PC kC eC wx hJ _ _
            have J := Lib.hid hJ
            have hS := Lib.hid (HSH.out _ J.out.bl)
            clear I hJ
            have I := J
            clear J
            refine hK.out _ _ hS.out (fun hHeld => ?_)
            clear hK K hS
            try simp only [Act.put, List.getElem_toArray, List.getElem_cons_succ, List.getElem_cons_zero, List.setIfInBounds_toArray, List.set_cons_zero, List.set_cons_succ]
            refine wpAnyH_take (i := 10) (v := ?_) rfl (by kernel_rfl) (by kernel_rfl) (by kernel_rfl) (fun _ _ _ h => h) (Or.inl ⟨by kernel_rfl, ?_⟩) (by assumption) ?_
            rotate_left
            · (intro wx hSw; (try dsimp only at hSw); go_simp; try (with_reducible rfl))
            try simp only [Act.put, List.getElem_toArray, List.getElem_cons_succ, List.getElem_cons_zero, List.setIfInBounds_toArray, List.set_cons_zero, List.set_cons_succ]
            refine wpAnyH_ready (rs := [11]) (by kernel_rfl) (by simp) ?_
            refine (AllReadyH.cons rfl (fun K hK => ?_) AllReadyH.nil)
            obtain ⟨z0, z1, z2, f0⟩ := HRS.out _ I.out.bl
            go_simp
            refine hK.out _ _ ?_ (fun hHeld => ?_)
            · simp only [World.cell?_setCell_other _ _ _ _ (show (⟨w.heap.size + 1 + 1, 0, none⟩ : Addr) ≠ ⟨w.heap.size, _, none⟩ from by simp), World.cell?_setCell_other _ _ _ _ (show (⟨w.heap.size + 1 + 1, 1, none⟩ : Addr) ≠ ⟨w.heap.size, _, none⟩ from by simp), World.cell?_setCell_other _ _ _ _ (show (⟨w.heap.size + 1 + 1, 2, none⟩ : Addr) ≠ ⟨w.heap.size, _, none⟩ from by simp), World.cell?_setCell_other _ _ _ _ (show (⟨w.heap.size + 1 + 1, 0, none⟩ : Addr) ≠ ⟨w.heap.size + 1, _, none⟩ from by simp), World.cell?_setCell_other _ _ _ _ (show (⟨w.heap.size + 1 + 1, 1, none⟩ : Addr) ≠ ⟨w.heap.size + 1, _, none⟩ from by simp), World.cell?_setCell_other _ _ _ _ (show (⟨w.heap.size + 1 + 1, 2, none⟩ : Addr) ≠ ⟨w.heap.size + 1, _, none⟩ from by simp)]; exact HSH.out _ I.out.bl
            clear hK K
            try simp only [Act.put, List.getElem_toArray, List.getElem_cons_succ, List.getElem_cons_zero, List.setIfInBounds_toArray, List.set_cons_zero, List.set_cons_succ]
            refine wpAnyH_take (i := 12) (v := ?_) rfl (by kernel_rfl) (by kernel_rfl) (by kernel_rfl) (fun _ _ _ h => h) (Or.inl ⟨by kernel_rfl, ?_⟩) (by assumption) ?_
            rotate_left
            · (intro wx hSw; (try dsimp only at hSw); go_simp; try (with_reducible rfl))
            try simp only [Act.put, List.getElem_toArray, List.getElem_cons_succ, List.getElem_cons_zero, List.setIfInBounds_toArray, List.set_cons_zero, List.set_cons_succ]
            refine wpAnyH_done (by kernel_rfl) ?_ _
            go_wp2
            refine bodyPost_ret (v := .tuple #[.agg #[.slice A' m' c', .slice PB L2.length eB, .slice PC kC eC], .int .i64 0]) (by simp [results, Try.results69, go_sem, z0, z1, z2]) rfl ⟨.slice A' m' c', .slice PB L2.length eB, .slice PC kC eC, by rw [HA.out], ?_⟩
            rw [HA.out]
            exact I.out.fin B0.out (b := w.heap.size + 1 + 1) (by omega) (by omega) _ _ _
        · have HB4 := Lib.hid (show fitsB D = false from by simpa using b4)
          rw [HB4.out]
          clear b4
          go_wp2_with fail
          refine (sameDisk_any KB.out _ (KH.out.bl (B0.out.trans_ I4.out))).mono ?_
          rintro e wz ⟨vA, vB, vC, rfl, hIz⟩
          obtain ⟨PA, PB, PC, kA, eA, kB, eB, kC, eC, ⟨rfl, rfl, rfl⟩, -⟩ := hIz.opened'
          have J := Lib.hid hIz
          obtain ⟨z0, z1, z2, z3⟩ := HRS.out _ (I4.out.trans_ hIz.bl)
          have hsz := I4.out.size
          clear hIz
          go_wp2
          refine bodyPost_ret (v := .tuple #[.agg #[.slice PA kA eA, .slice PB kB eB, .slice PC kC eC], .int .i64 4]) (by simp [results, Try.results69, go_sem, z0, z1, z2]) rfl ⟨.slice PA kA eA, .slice PB kB eB, .slice PC kC eC, by rw [show (actD (L1, L2, O) ⟨q, a, b, d⟩).2 = 4 from by unfold actD; rw [if_neg (by rw [HB1.out]; simp), if_neg (by simp only; rw [HB2.out]; simp), if_pos (.inr (by simp only; rw [← HD.out]; exact HB4.out))]], ?_⟩
          rw [show (actD (L1, L2, O) ⟨q, a, b, d⟩).1 = (L1, L2, O) from by unfold actD; rw [if_neg (by rw [HB1.out]; simp), if_neg (by simp only; rw [HB2.out]; simp), if_pos (.inr (by simp only; rw [← HD.out]; exact HB4.out))]]
          exact J.out.fin (B0.out.trans_ I4.out) (b := w.heap.size + 1 + 1) (by omega) (by omega) _ _ _
    · have HB2 := Lib.hid (show foundB L1 ⟨q, a, b, d⟩ = false from by simpa using b2)
      clear b1 b2
      go_enter Try.func69, Try.ntmps69
      go_wp2_with fail
      rw [← hw0]
      refine (opOf_any ⟨q, a, b, d⟩ _).mono ?_
      rintro e w1 ⟨⟨xo, rfl, hxo⟩, hb1⟩
      have I1 := Lib.hid (I0.out.trans_ hb1)
      obtain ⟨x10, x11, x12, y10, y11, y12, y13⟩ := HSH.out _ I1.out
      clear hb1 hw0
      rw [HB1.out]
      have HX := Lib.hid (hxo HB1.out)
      clear hxo
      go_wp2_with fail
      rw [HX.out]
      refine (finds_any A1 n1 c1 L1 KB.out.l1 ⟨q, a, b, d⟩ HB1.out _ (by omega) SO.out (KH.out.f1.bl (B0.out.trans_ I1.out))).mono ?_
      rintro e w2 ⟨rfl, hb2⟩
      have I2 := Lib.hid (I1.out.trans_ hb2)
      clear x10 x11 x12 y10 y11 y12 y13
      obtain ⟨x20, x21, x22, y20, y21, y22, y23⟩ := HSH.out _ I2.out
      clear hb2
      rw [HB2.out]
      go_wp2_with fail
      refine (sameDisk_any KB.out _ (KH.out.bl (B0.out.trans_ I2.out))).mono ?_
      rintro e wz ⟨vA, vB, vC, rfl, hIz⟩
      obtain ⟨PA, PB, PC, kA, eA, kB, eB, kC, eC, ⟨rfl, rfl, rfl⟩, -⟩ := hIz.opened'
      have J := Lib.hid hIz
      obtain ⟨z0, z1, z2, z3⟩ := HRS.out _ (I2.out.trans_ hIz.bl)
      have hsz := I2.out.size
      clear hIz
      go_wp2
      refine bodyPost_ret (v := .tuple #[.agg #[.slice PA kA eA, .slice PB kB eB, .slice PC kC eC], .int .i64 3]) (by simp [results, Try.results69, go_sem, z0, z1, z2]) rfl ⟨.slice PA kA eA, .slice PB kB eB, .slice PC kC eC, by rw [show (actD (L1, L2, O) ⟨q, a, b, d⟩).2 = 3 from by unfold actD; rw [if_neg (by rw [HB1.out]; simp), if_pos (by simp only; exact HB2.out)]], ?_⟩
      rw [show (actD (L1, L2, O) ⟨q, a, b, d⟩).1 = (L1, L2, O) from by unfold actD; rw [if_neg (by rw [HB1.out]; simp), if_pos (by simp only; exact HB2.out)]]
      exact J.out.fin (B0.out.trans_ I2.out) (b := w.heap.size + 1 + 1) (by omega) (by omega) _ _ _
  · have HB1 := Lib.hid (show formB ⟨q, a, b, d⟩ = false from by simpa using b1)
    clear b1
    go_enter Try.func69, Try.ntmps69
    go_wp2_with fail
    rw [← hw0]
    refine (opOf_any ⟨q, a, b, d⟩ _).mono ?_
    rintro e w1 ⟨⟨xo, rfl, hxo⟩, hb1⟩
    have I1 := Lib.hid (I0.out.trans_ hb1)
    obtain ⟨x10, x11, x12, y10, y11, y12, y13⟩ := HSH.out _ I1.out
    clear hb1 hw0
    rw [HB1.out]
    clear hxo
    go_wp2_with fail
    refine (sameDisk_any KB.out _ (KH.out.bl (B0.out.trans_ I1.out))).mono ?_
    rintro e wz ⟨vA, vB, vC, rfl, hIz⟩
    obtain ⟨PA, PB, PC, kA, eA, kB, eB, kC, eC, ⟨rfl, rfl, rfl⟩, -⟩ := hIz.opened'
    have J := Lib.hid hIz
    obtain ⟨z0, z1, z2, z3⟩ := HRS.out _ (I1.out.trans_ hIz.bl)
    have hsz := I1.out.size
    clear hIz
    go_wp2
    refine bodyPost_ret (v := .tuple #[.agg #[.slice PA kA eA, .slice PB kB eB, .slice PC kC eC], .int .i64 2]) (by simp [results, Try.results69, go_sem, z0, z1, z2]) rfl ⟨.slice PA kA eA, .slice PB kB eB, .slice PC kC eC, by rw [show (actD (L1, L2, O) ⟨q, a, b, d⟩).2 = 2 from by unfold actD; rw [if_pos HB1.out]], ?_⟩
    rw [show (actD (L1, L2, O) ⟨q, a, b, d⟩).1 = (L1, L2, O) from by unfold actD; rw [if_pos HB1.out]]
    exact J.out.fin (B0.out.trans_ I1.out) (b := w.heap.size + 1 + 1) (by omega) (by omega) _ _ _

end Go.Proofs.Ytipmjgciaalmbaa
