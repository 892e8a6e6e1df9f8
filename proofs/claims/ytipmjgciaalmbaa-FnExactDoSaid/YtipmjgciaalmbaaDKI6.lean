/-
  What is proved here: the program's way of doing an op to files. No conditions beyond those that each theorem states.
-/
import Derived.Test.YtipmjgciaalmbaaDKI5
set_option linter.unusedSimpArgs false
set_option linter.unusedVariables false
namespace Go.Proofs.Ytipmjgciaalmbaa
open Go.RowKit

theorem ta_yes {P : Program} {t : TypeId} {fs : Array Field} (h : P.underlying t = some (.struct fs)) (v : Value) (xT : TypeId) (w : World) : (Instr.typeAssert (.iface t v) xT t true).run P w = .ok (.tuple #[v, .bool true]) w := by
  simp [Instr.typeAssert, run_underlying h]
theorem ta_no {P : Program} {t t' : TypeId} {fs : Array Field} {z : Value} (h : P.underlying t' = some (.struct fs)) (hz : (P.info? t').map (·.zero) = some (some z)) (hne : t ≠ t') (v : Value) (xT : TypeId) (w : World) : (Instr.typeAssert (.iface t v) xT t' true).run P w = .ok (.tuple #[z, .bool false]) w := by
  obtain ⟨i, hi, hiz⟩ : ∃ i, P.info? t' = some i ∧ i.zero = some z := by
    cases hq : P.info? t' with
    | none => simp [hq] at hz
    | some i => exact ⟨i, rfl, by simpa [hq] using hz⟩
  simp [Instr.typeAssert, run_underlying h, hne, zeroValue, typeInfo, hi, hiz]
theorem ta11 (v : Value) (xT : TypeId) (w : World) : (Instr.typeAssert (.iface 129 v) xT 129 true).run Try.prog w = .ok (.tuple #[v, .bool true]) w := ta_yes Try.underlying129 v xT w
theorem ta22 (v : Value) (xT : TypeId) (w : World) : (Instr.typeAssert (.iface 131 v) xT 131 true).run Try.prog w = .ok (.tuple #[v, .bool true]) w := ta_yes Try.underlying131 v xT w
theorem ta33 (v : Value) (xT : TypeId) (w : World) : (Instr.typeAssert (.iface 133 v) xT 133 true).run Try.prog w = .ok (.tuple #[v, .bool true]) w := ta_yes Try.underlying133 v xT w
theorem ta21 (v : Value) (xT : TypeId) (w : World) : (Instr.typeAssert (.iface 131 v) xT 129 true).run Try.prog w = .ok (.tuple #[.agg #[.string ⟨#[]⟩, .string ⟨#[]⟩], .bool false]) w := ta_no Try.underlying129 (by kernel_rfl) (by decide) v xT w
theorem ta31 (v : Value) (xT : TypeId) (w : World) : (Instr.typeAssert (.iface 133 v) xT 129 true).run Try.prog w = .ok (.tuple #[.agg #[.string ⟨#[]⟩, .string ⟨#[]⟩], .bool false]) w := ta_no Try.underlying129 (by kernel_rfl) (by decide) v xT w
theorem ta32 (v : Value) (xT : TypeId) (w : World) : (Instr.typeAssert (.iface 133 v) xT 131 true).run Try.prog w = .ok (.tuple #[.agg #[.string ⟨#[]⟩, .string ⟨#[]⟩], .bool false]) w := ta_no Try.underlying131 (by kernel_rfl) (by decide) v xT w

set_option maxHeartbeats 400000 in
theorem file1_any (a b : ByteArray) (w : World) : Calls Try.prog 178 #[.agg #[.string a, .string b]] w fun e w' => e = .returned (.string a) ∧ Bl w w' := by
  go_enter Try.func178, Try.ntmps178
  go_wp2
  go_ret
  exact ⟨rfl, (by repeat' (first | exact Bl.refl _ | with_reducible assumption | with_reducible refine Bl.drew_ ?_ | with_reducible refine Bl.drewN_ ?_ _ | with_reducible refine Bl.alloc_ ?_ _ | with_reducible refine Bl.trans_ ?_ (by assumption) | with_reducible refine Bl.trans_ ?_ (And.left (by assumption))))⟩
set_option maxHeartbeats 400000 in
theorem file2_any (a b : ByteArray) (w : World) : Calls Try.prog 179 #[.agg #[.string a, .string b]] w fun e w' => e = .returned (.string a) ∧ Bl w w' := by
  go_enter Try.func179, Try.ntmps179
  go_wp2
  go_ret
  exact ⟨rfl, (by repeat' (first | exact Bl.refl _ | with_reducible assumption | with_reducible refine Bl.drew_ ?_ | with_reducible refine Bl.drewN_ ?_ _ | with_reducible refine Bl.alloc_ ?_ _ | with_reducible refine Bl.trans_ ?_ (by assumption) | with_reducible refine Bl.trans_ ?_ (And.left (by assumption))))⟩
set_option maxHeartbeats 400000 in
theorem file3_any (a : ByteArray) (w : World) : Calls Try.prog 180 #[.agg #[.string a]] w fun e w' => e = .returned (.string a) ∧ Bl w w' := by
  go_enter Try.func180, Try.ntmps180
  go_wp2
  go_ret
  exact ⟨rfl, (by repeat' (first | exact Bl.refl _ | with_reducible assumption | with_reducible refine Bl.drew_ ?_ | with_reducible refine Bl.drewN_ ?_ _ | with_reducible refine Bl.alloc_ ?_ _ | with_reducible refine Bl.trans_ ?_ (by assumption) | with_reducible refine Bl.trans_ ?_ (And.left (by assumption))))⟩

theorem form_kinds {q : Int} {a b d : ByteArray} (h : formB ⟨q, a, b, d⟩ = true) : q = 1 ∨ q = 2 ∨ q = 3 := by
  unfold formB at h
  simp only [Bool.and_eq_true, decide_eq_true_eq] at h
  omega
theorem opV1 (a b d : ByteArray) : opV ⟨1, a, b, d⟩ = .iface 129 (.agg #[.string a, .string d]) := rfl
theorem opV2 (a b d : ByteArray) : opV ⟨2, a, b, d⟩ = .iface 131 (.agg #[.string a, .string b]) := rfl
theorem opV3 (a b d : ByteArray) : opV ⟨3, a, b, d⟩ = .iface 133 (.agg #[.string a]) := rfl

set_option maxRecDepth 100000 in
set_option maxHeartbeats 4000000 in
theorem finds_any (A : Option Addr) (n c : Nat) (L : List Fl) (hn : n = L.length) (o : Dp) (hf : formB o = true) (w : World) (hm : n ≤ 1048576) (hs : SortedF L) (H1 : FilesAt w w.heap.size A L) :
    Calls Try.prog 55 #[.slice A n c, opV o] w fun e w' => e = .returned (.bool (foundB L o)) ∧ Bl w w' := by
  obtain ⟨q, a, b, d⟩ := o
  have K1 := Lib.hid H1
  have HN := Lib.hid hn
  have HS := Lib.hid hs
  clear H1 hn hs
  rcases form_kinds hf with rfl | rfl | rfl
  · rw [opV1]
    clear hf
    have t1 := ta11
    go_enter Try.func55, Try.ntmps55
    go_wp2
    go_ret
    exact ⟨ret_bool rfl, Bl.refl w⟩
  · rw [opV2]
    clear hf
    have t1 := ta21
    have HF := Lib.hid (show foundB L ⟨2, a, b, d⟩ = hasL L a from rfl)
    go_enter Try.func55, Try.ntmps55
    go_wp2_with fail
    refine (file2_any a b _).mono ?_
    rintro e w1 ⟨rfl, hb1⟩
    have B1 := Lib.hid hb1
    clear hb1
    go_wp2_with fail
    refine (hasFile_any a A n c L HN.out _ (by omega) HS.out (K1.out.bl B1.out)).mono ?_
    rintro e w2 ⟨rfl, hb2⟩
    have B2 := Lib.hid (B1.out.trans_ hb2)
    rw [← HF.out]
    clear hb2
    go_wp2
    go_ret
    exact ⟨rfl, B2.out⟩
  · rw [opV3]
    clear hf
    have t1 := ta31
    have HF := Lib.hid (show foundB L ⟨3, a, b, d⟩ = hasL L a from rfl)
    go_enter Try.func55, Try.ntmps55
    go_wp2_with fail
    refine (file3_any a _).mono ?_
    rintro e w1 ⟨rfl, hb1⟩
    have B1 := Lib.hid hb1
    clear hb1
    go_wp2_with fail
    refine (hasFile_any a A n c L HN.out _ (by omega) HS.out (K1.out.bl B1.out)).mono ?_
    rintro e w2 ⟨rfl, hb2⟩
    have B2 := Lib.hid (B1.out.trans_ hb2)
    rw [← HF.out]
    clear hb2
    go_wp2
    go_ret
    exact ⟨rfl, B2.out⟩

set_option maxRecDepth 100000 in
set_option maxHeartbeats 8000000 in
theorem done_any (A : Option Addr) (n c : Nat) (L : List Fl) (hn : n = L.length) (o : Dp) (hf : formB o = true) (w : World) (hm : n ≤ 400000) (hsm : sumL L ≤ 4194304) (hos : o.data.size ≤ 4194304) (hs : SortedF L) (H1 : FilesAt w w.heap.size A L) :
    Calls Try.prog 56 #[.slice A n c, opV o] w (FilesNew (doL L o) w) := by
  obtain ⟨q, a, b, d⟩ := o
  simp only at hos
  have K1 := Lib.hid H1
  have HN := Lib.hid hn
  have HS := Lib.hid hs
  have hdl := data_le (L := L) a
  clear H1 hn hs
  rcases form_kinds hf with rfl | rfl | rfl
  · rw [opV1]
    clear hf
    have t1 := ta11
    have HD := Lib.hid (show doL L ⟨1, a, b, d⟩ = putL L a (dataL L a ++ d) from by unfold doL; rw [if_pos rfl])
    go_enter Try.func56, Try.ntmps56
    go_wp2_with fail
    refine (file1_any a d _).mono ?_
    rintro e w1 ⟨rfl, hb1⟩
    have B1 := Lib.hid hb1
    clear hb1
    go_wp2_with fail
    refine (dataOf_any a A n c L HN.out _ (by omega) HS.out (K1.out.bl B1.out)).mono ?_
    rintro e w2 ⟨rfl, hb2⟩
    have B2 := Lib.hid (B1.out.trans_ hb2)
    obtain ⟨x, hx⟩ : ∃ x, x = dataL L a := ⟨_, rfl⟩
    rw [← hx] at hdl HD
    rw [← hx]
    obtain ⟨y, hy⟩ : ∃ y, y = hasL L a := ⟨_, rfl⟩
    rw [← hy]
    have hsz : ((x.size + d.size : Nat) : Int) ≤ IntKind.i64.max := by rw [show IntKind.i64.max = 9223372036854775807 from by decide]; omega
    clear hb2 hx hy
    go_wp2_with fail
    refine (put_any A n c L HN.out a (x ++ d) _ (by omega) HS.out (K1.out.bl (B2.out.alloc_ _))).mono ?_
    rintro e w3 ⟨v, rfl, hv, hb3⟩
    have V := Lib.hid hv
    have B3 := Lib.hid ((B2.out.alloc_ _).trans_ hb3)
    have s2 := B2.out.size
    clear hv hb3
    go_wp2
    go_ret
    exact ⟨_, rfl, by rw [HD.out]; exact V.out.low (by simp; omega), B3.out⟩
  · rw [opV2]
    clear hf
    have t1 := ta21
    have t2 := ta22
    cases hh : hasL L a with
    | true =>
      have HD := Lib.hid (show doL L ⟨2, a, b, d⟩ = putL (cutL L a) b (dataL L a) from by unfold doL; rw [if_neg (show ¬ (2 : Int) = 1 from by decide), if_pos hh, if_pos rfl])
      have HH := Lib.hid hh
      clear hh
      go_enter Try.func56, Try.ntmps56
      go_wp2_with fail
      refine (file2_any a b _).mono ?_
      rintro e w1 ⟨rfl, hb1⟩
      have B1 := Lib.hid hb1
      clear hb1
      go_wp2_with fail
      refine (dataOf_any a A n c L HN.out _ (by omega) HS.out (K1.out.bl B1.out)).mono ?_
      rintro e w2 ⟨rfl, hb2⟩
      have B2 := Lib.hid (B1.out.trans_ hb2)
      obtain ⟨x, hx⟩ : ∃ x, x = dataL L a := ⟨_, rfl⟩
      rw [← hx] at hdl HD
      rw [← hx, HH.out]
      clear hb2 hx
      have X2 := Lib.hid (show Bl w (w2.alloc (.cells #[.string a, .string b] 131)) from B2.out.alloc_ _)
      have s2 := B2.out.size
      have HSH := Lib.hid (show ∀ wx, Bl (w2.alloc (.cells #[.string a, .string b] 131)) wx → Bl (w2.alloc (.cells #[.string a, .string b] 131)) wx ∧ wx.cell? ⟨w2.heap.size, 0, none⟩ = some (.string a) ∧ wx.cell? ⟨w2.heap.size, 1, none⟩ = some (.string b) from fun wx hb => ⟨hb, (box2 hb).1, (box2 hb).2⟩)
      have SC := Lib.hid (cut_sorted HS.out a)
      have hlc := cut_len L a
      obtain ⟨m, hm'⟩ : ∃ m, m = (cutL L a).length := ⟨_, rfl⟩
      rw [← hm'] at hlc
      have HM := Lib.hid hm'
      have hmb : m ≤ 400000 := by have := HN.out; omega
      clear hm'
      go_wp2_with fail
      refine wp_region_held_drew (S := fun wx => Bl (w2.alloc (.cells #[.string a, .string b] 131)) wx ∧ wx.cell? ⟨w2.heap.size, 0, none⟩ = some (.string a) ∧ wx.cell? ⟨w2.heap.size, 1, none⟩ = some (.string b)) (by kernel_rfl) ?_ (fun hHeld => ?_)
      · (first | exact HSH.out _ (Bl.drew_ (Bl.refl _)) | exact HSH.out _ ((Bl.drew_ (Bl.refl _)).trans_ hb3) | exact HSH.out _ (((Bl.drew_ (Bl.refl _)).trans_ hb3).trans_ hb4))
      refine wpAnyH_take (i := 0) (v := ?_) rfl (by kernel_rfl) (by kernel_rfl) (by kernel_rfl) (fun _ _ _ h => h) (Or.inl ⟨by kernel_rfl, ?_⟩) (by assumption) ?_
      rotate_left
      · (intro wx hSw; (try dsimp only at hSw); go_simp; try (with_reducible rfl))
      try simp only [Act.put, List.getElem_toArray, List.getElem_cons_succ, List.getElem_cons_zero, List.setIfInBounds_toArray, List.set_cons_zero, List.set_cons_succ]
      refine wpAnyH_take (i := 1) (v := ?_) rfl (by kernel_rfl) (by kernel_rfl) (by kernel_rfl) (fun _ _ _ h => h) (Or.inl ⟨by kernel_rfl, ?_⟩) (by assumption) ?_
      rotate_left
      · (intro wx hSw; (try dsimp only at hSw); go_simp; try (with_reducible rfl))
      try simp only [Act.put, List.getElem_toArray, List.getElem_cons_succ, List.getElem_cons_zero, List.setIfInBounds_toArray, List.set_cons_zero, List.set_cons_succ]
      refine wpAnyH_take (i := 2) (v := ?_) rfl (by kernel_rfl) (by kernel_rfl) (by kernel_rfl) (fun _ _ _ h => h) (Or.inl ⟨by kernel_rfl, ?_⟩) (by assumption) ?_
      rotate_left
      · (intro wx hSw; (try dsimp only at hSw); go_simp; try (with_reducible rfl))
      try simp only [Act.put, List.getElem_toArray, List.getElem_cons_succ, List.getElem_cons_zero, List.setIfInBounds_toArray, List.set_cons_zero, List.set_cons_succ]
      refine wpAnyH_take (i := 4) (v := ?_) rfl (by kernel_rfl) (by kernel_rfl) (by kernel_rfl) (fun _ _ _ h => h) (Or.inl ⟨by kernel_rfl, ?_⟩) (by assumption) ?_
      rotate_left
      · (intro wx hSw; (try dsimp only at hSw); go_simp; try (with_reducible rfl))
      try simp only [Act.put, List.getElem_toArray, List.getElem_cons_succ, List.getElem_cons_zero, List.setIfInBounds_toArray, List.set_cons_zero, List.set_cons_succ]
      refine wpAnyH_take (i := 5) (v := ?_) rfl (by kernel_rfl) (by kernel_rfl) (by kernel_rfl) (fun _ _ _ h => h) (Or.inl ⟨by kernel_rfl, ?_⟩) (by assumption) ?_
      rotate_left
      · (intro wx hSw; (try dsimp only at hSw); go_simp; try (with_reducible rfl))
      try simp only [Act.put, List.getElem_toArray, List.getElem_cons_succ, List.getElem_cons_zero, List.setIfInBounds_toArray, List.set_cons_zero, List.set_cons_succ]
      refine wpAnyH_take (i := 6) (v := ?_) rfl (by kernel_rfl) (by kernel_rfl) (by kernel_rfl) (fun _ _ _ h => h) (Or.inl ⟨by kernel_rfl, ?_⟩) (by assumption) ?_
      rotate_left
      · (intro wx hSw; (try dsimp only at hSw); go_simp; try (with_reducible rfl))
      try simp only [Act.put, List.getElem_toArray, List.getElem_cons_succ, List.getElem_cons_zero, List.setIfInBounds_toArray, List.set_cons_zero, List.set_cons_succ]
      refine wpAnyH_take (i := 7) (v := ?_) rfl (by kernel_rfl) (by kernel_rfl) (by kernel_rfl) (fun _ _ _ h => h) (Or.inl ⟨by kernel_rfl, ?_⟩) (by assumption) ?_
      rotate_left
      · (intro wx hSw; (try dsimp only at hSw); go_simp; try (with_reducible rfl))
      try simp only [Act.put, List.getElem_toArray, List.getElem_cons_succ, List.getElem_cons_zero, List.setIfInBounds_toArray, List.set_cons_zero, List.set_cons_succ]
      refine wpAnyH_ready (rs := [3]) (by kernel_rfl) (by simp) ?_
      refine AllReadyH.cons rfl (fun K hK => ?_) AllReadyH.nil
      go_simp
      (go_at_call 100; refine (without_any A n c L HN.out a _ (by omega) (K1.out.bl (X2.out.drew_))).mono ?_; rintro e w3 ⟨v3, rfl, hv3, hb3⟩; obtain ⟨A3, c3, rfl, hc3, ha3, -⟩ := own_shapeF hv3; rw [← HM.out]; have F3 := Lib.hid ha3; have s3 := hb3.size; clear hv3 ha3)
      try (go_wp2_with fail)
      refine hK.out _ _ ?_ (fun hHeld => ?_)
      · (first | exact HSH.out _ (Bl.drew_ (Bl.refl _)) | exact HSH.out _ ((Bl.drew_ (Bl.refl _)).trans_ hb3) | exact HSH.out _ (((Bl.drew_ (Bl.refl _)).trans_ hb3).trans_ hb4))
      clear hK K
      try simp only [Act.put, List.getElem_toArray, List.getElem_cons_succ, List.getElem_cons_zero, List.setIfInBounds_toArray, List.set_cons_zero, List.set_cons_succ]
      refine wpAnyH_ready (rs := [8]) (by kernel_rfl) (by simp) ?_
      refine AllReadyH.cons rfl (fun K hK => ?_) AllReadyH.nil
      go_simp
      (go_at_call 99; refine (put_any A3 m c3 (cutL L a) HM.out b x _ (by omega) SC.out F3.out).mono ?_; rintro e w4 ⟨v4, rfl, hv4, hb4⟩; have V4 := Lib.hid hv4; clear hv4)
      try (go_wp2_with fail)
      refine hK.out _ _ ?_ (fun hHeld => ?_)
      · (first | exact HSH.out _ (Bl.drew_ (Bl.refl _)) | exact HSH.out _ ((Bl.drew_ (Bl.refl _)).trans_ hb3) | exact HSH.out _ (((Bl.drew_ (Bl.refl _)).trans_ hb3).trans_ hb4))
      clear hK K
      try simp only [Act.put, List.getElem_toArray, List.getElem_cons_succ, List.getElem_cons_zero, List.setIfInBounds_toArray, List.set_cons_zero, List.set_cons_succ]
      refine wpAnyH_take (i := 9) (v := ?_) rfl (by kernel_rfl) (by kernel_rfl) (by kernel_rfl) (fun _ _ _ h => h) (Or.inl ⟨by kernel_rfl, ?_⟩) (by assumption) ?_
      rotate_left
      · (intro wx hSw; (try dsimp only at hSw); go_simp; try (with_reducible rfl))
      try simp only [Act.put, List.getElem_toArray, List.getElem_cons_succ, List.getElem_cons_zero, List.setIfInBounds_toArray, List.set_cons_zero, List.set_cons_succ]
      refine wpAnyH_done (by kernel_rfl) ?_ _
      obtain ⟨hbx, -⟩ := hHeld
      go_wp2
      go_ret
      refine ⟨_, rfl, by rw [HD.out]; exact V4.out.low (by simp at s3; omega), X2.out.trans_ hbx⟩
    | false =>
      have HD := Lib.hid (show doL L ⟨2, a, b, d⟩ = L from by unfold doL; rw [if_neg (show ¬ (2 : Int) = 1 from by decide), if_neg (by rw [hh]; simp)])
      have HH := Lib.hid hh
      clear hh
      go_enter Try.func56, Try.ntmps56
      go_wp2_with fail
      refine (file2_any a b _).mono ?_
      rintro e w1 ⟨rfl, hb1⟩
      have B1 := Lib.hid hb1
      clear hb1
      go_wp2_with fail
      refine (dataOf_any a A n c L HN.out _ (by omega) HS.out (K1.out.bl B1.out)).mono ?_
      rintro e w2 ⟨rfl, hb2⟩
      have B2 := Lib.hid (B1.out.trans_ hb2)
      obtain ⟨x, hx⟩ : ∃ x, x = dataL L a := ⟨_, rfl⟩
      rw [← hx, HH.out]
      have s2 := B2.out.size
      clear hb2 hx hdl
      go_wp2_with fail
      refine (cloneF_any A n c L HN.out _ (by omega) (K1.out.bl (B2.out.alloc_ _))).mono ?_
      rintro e w3 ⟨v, rfl, hv, hb3⟩
      have V := Lib.hid hv
      have B3 := Lib.hid ((B2.out.alloc_ _).trans_ hb3)
      clear hv hb3
      go_wp2
      go_ret
      exact ⟨_, rfl, by rw [HD.out]; exact V.out.low (by simp; omega), B3.out⟩
  · rw [opV3]
    clear hf
    have t1 := ta31
    have t2 := ta32
    have t3 := ta33
    have HD := Lib.hid (show doL L ⟨3, a, b, d⟩ = cutL L a from by
      unfold doL
      rw [if_neg (show ¬ (3 : Int) = 1 from by decide)]
      cases hh : hasL L a with
      | true => rw [if_pos rfl, if_neg (show ¬ (3 : Int) = 2 from by decide)]
      | false =>
        rw [if_neg (by simp)]
        refine (cut_none fun j hj => ?_).symm
        cases e : sameB L[j].1 a
        · rfl
        · have := has_of_at hj e
          rw [hh] at this
          exact absurd this (by simp))
    go_enter Try.func56, Try.ntmps56
    go_wp2_with fail
    refine (file3_any a _).mono ?_
    rintro e w1 ⟨rfl, hb1⟩
    have B1 := Lib.hid hb1
    clear hb1
    go_wp2_with fail
    refine (dataOf_any a A n c L HN.out _ (by omega) HS.out (K1.out.bl B1.out)).mono ?_
    rintro e w2 ⟨rfl, hb2⟩
    have B2 := Lib.hid (B1.out.trans_ hb2)
    obtain ⟨x, hx⟩ : ∃ x, x = dataL L a := ⟨_, rfl⟩
    rw [← hx]
    obtain ⟨y, hy⟩ : ∃ y, y = hasL L a := ⟨_, rfl⟩
    rw [← hy]
    have s2 := B2.out.size
    clear hb2 hx hdl hy
    go_wp2_with fail
    refine (without_any A n c L HN.out a _ (by omega) (K1.out.bl (B2.out.alloc_ _))).mono ?_
    rintro e w3 ⟨v, rfl, hv, hb3⟩
    have V := Lib.hid hv
    have B3 := Lib.hid ((B2.out.alloc_ _).trans_ hb3)
    clear hv hb3
    go_wp2
    go_ret
    exact ⟨_, rfl, by rw [HD.out]; exact V.out.low (by simp; omega), B3.out⟩

end Go.Proofs.Ytipmjgciaalmbaa
