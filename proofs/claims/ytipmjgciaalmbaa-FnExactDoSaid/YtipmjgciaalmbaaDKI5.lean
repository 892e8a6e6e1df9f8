/-
  What is proved here: the program puts a file among others; what it makes of an op. No conditions beyond those that each theorem states.
-/
import Derived.Test.YtipmjgciaalmbaaDKI4
set_option linter.unusedSimpArgs false
set_option linter.unusedVariables false
namespace Go.Proofs.Ytipmjgciaalmbaa
open Go.RowKit

set_option maxRecDepth 100000 in
set_option maxHeartbeats 2000000 in
theorem put_any (A : Option Addr) (n c : Nat) (L : List Fl) (hn : n = L.length) (nm d : ByteArray) (w : World) (hm : n ≤ 1048000) (hs : SortedF L) (H1 : FilesAt w w.heap.size A L) :
    Calls Try.prog 99 #[.slice A n c, .agg #[.string nm, .string d]] w (FilesNew (putL L nm d) w) := by
  have K1 := Lib.hid H1
  have HN := Lib.hid hn
  have SC := Lib.hid (cut_sorted hs nm)
  have hcl := cut_len L nm
  clear H1 hn hs
  go_enter Try.func99, Try.ntmps99
  go_wp2_with fail
  refine (without_any A n c L HN.out nm _ (by omega) (K1.out.bl (by repeat' (first | exact Bl.refl _ | with_reducible assumption | with_reducible refine Bl.drew_ ?_ | with_reducible refine Bl.drewN_ ?_ _ | with_reducible refine Bl.alloc_ ?_ _ | with_reducible refine Bl.trans_ ?_ (by assumption) | with_reducible refine Bl.trans_ ?_ (And.left (by assumption)))))).mono ?_
  rintro e w1 ⟨v, rfl, hv, hb1⟩
  obtain ⟨q0, q1⟩ := box2 hb1
  have X1 := Lib.hid hb1
  have V := Lib.hid hv
  have hs1 := hb1.size
  have hws : w.heap.size < w1.heap.size := by simp at hs1; omega
  obtain ⟨A', c', rfl, hc', ha', -⟩ := own_shapeF hv
  have F1 := Lib.hid ha'
  obtain ⟨m, hm'⟩ : ∃ m, m = (cutL L nm).length := ⟨_, rfl⟩
  rw [← hm'] at hcl V
  rw [← hm']
  have HM := Lib.hid hm'
  have hmb : m ≤ 1048000 := by have := HN.out; omega
  clear hb1 hv ha' hm'
  go_wp2_with fail
  refine (placeOfFile_any nm A' m c' (cutL L nm) HM.out _ (by omega) SC.out F1.out).mono ?_
  rintro e w2 ⟨p, b, hp, rfl, hb2⟩
  have hpl := hp.1
  rw [← HM.out] at hpl
  have HI := Lib.hid (hp.ins d)
  have X2 := Lib.hid (X1.out.trans_ hb2)
  obtain ⟨q0, q1⟩ := box2 X2.out
  have BW := Lib.hid ((Bl.alloc_ (Bl.refl w) _).trans_ X2.out)
  have V2 := Lib.hid (show OwnF w2 w.heap.size (.slice A' m c') (cutL L nm) from (Owns.low (Owns.bl (show Owns _ _ _ _ _ _ _ from V.out) hb2) (by simp)))
  have hlt := Owns.lt_ (show Owns _ _ _ _ (.slice A' m c') _ _ from V2.out)
  clear hp hb2
  go_wp2_with fail
  refine (insertF_any w _ (cutL L nm) p m (nm, d) w2.heap.size 89 _ HM.out hmb hpl (BW.out.alloc_ _) (Owns.bl (show Owns _ _ _ _ _ _ _ from V2.out) (Bl.alloc_ (Bl.refl w2) _)) (heap_alloc_new w2 _) (fun g hg => by
    have := hlt g (by rw [← ownBlock_slice A' m c']; exact hg)
    omega)).mono ?_
  rintro e w3 ⟨⟨v3, rfl, hv3⟩, hb3⟩
  rw [HI.out] at hv3
  have V3 := Lib.hid hv3
  clear hv3
  go_wp2
  go_ret
  exact ⟨_, rfl, V3.out, hb3⟩

/-- What the program makes of an op that has its form. -/
def opV (o : Dp) : Value :=
  if o.kind = 1 then .iface 129 (.agg #[.string o.name, .string o.data])
  else if o.kind = 2 then .iface 131 (.agg #[.string o.name, .string o.to])
  else .iface 133 (.agg #[.string o.name])
def OpMade (o : Dp) (w : World) (e : Ending) (w' : World) : Prop := (∃ x, e = .returned (.tuple #[x, .bool (formB o)]) ∧ (formB o = true → x = opV o)) ∧ Bl w w'

set_option maxRecDepth 100000 in
set_option maxHeartbeats 4000000 in
theorem opOf_any (o : Dp) (w : World) : Calls Try.prog 54 #[.agg #[.int .i64 o.kind, .string o.name, .string o.to, .string o.data]] w (OpMade o w) := by
  obtain ⟨q, a, b, d⟩ := o
  show Calls Try.prog 54 #[.agg #[.int .i64 q, .string a, .string b, .string d]] w _
  have HF := Lib.hid (show formB ⟨q, a, b, d⟩ = (decide (1 ≤ q) && decide (q ≤ 3) && nameB a && (if q = 2 then nameB b && emptyB d else emptyB b && (decide (q = 1) || emptyB d))) from rfl)
  by_cases ha : nameB a = true
  · have HA := Lib.hid ha
    clear ha
    by_cases k1 : q = 1
    · subst k1
      by_cases heb : emptyB b = true
      · have hEb : b.toList.isEmpty = true := heb
        go_enter Try.func54, Try.ntmps54
        go_wp2_with fail
        refine (nameOk_any a _).mono ?_
        rintro e w1 ⟨rfl, rfl⟩
        rw [HA.out]
        go_wp2
        refine bodyPost_ret (v := .tuple #[.iface 129 (.agg #[.string a, .string d]), .bool true]) (by simp [results, Try.results54, go_sem]) rfl ⟨⟨.iface 129 (.agg #[.string a, .string d]), by rw [show formB ⟨1, a, b, d⟩ = true from by rw [HF.out, HA.out]; simp [heb]], fun h => rfl⟩, (by repeat' (first | exact Bl.refl _ | with_reducible assumption | with_reducible refine Bl.drew_ ?_ | with_reducible refine Bl.drewN_ ?_ _ | with_reducible refine Bl.alloc_ ?_ _ | with_reducible refine Bl.trans_ ?_ (by assumption) | with_reducible refine Bl.trans_ ?_ (And.left (by assumption))))⟩
      · have hEb : b.toList.isEmpty = false := by simpa [emptyB] using heb
        have heb0 : emptyB b = false := hEb
        go_enter Try.func54, Try.ntmps54
        go_wp2_with fail
        refine (nameOk_any a _).mono ?_
        rintro e w1 ⟨rfl, rfl⟩
        rw [HA.out]
        go_wp2
        refine bodyPost_ret (v := .tuple #[.nilIface, .bool false]) (by simp [results, Try.results54, go_sem]) rfl ⟨⟨.nilIface, by rw [show formB ⟨1, a, b, d⟩ = false from by rw [HF.out, HA.out]; simp [heb0]], fun h => absurd (h.symm.trans (show formB ⟨1, a, b, d⟩ = false from by rw [HF.out, HA.out]; simp [heb0])) (by simp)⟩, (by repeat' (first | exact Bl.refl _ | with_reducible assumption | with_reducible refine Bl.drew_ ?_ | with_reducible refine Bl.drewN_ ?_ _ | with_reducible refine Bl.alloc_ ?_ _ | with_reducible refine Bl.trans_ ?_ (by assumption) | with_reducible refine Bl.trans_ ?_ (And.left (by assumption))))⟩
    · by_cases k2 : q = 2
      · subst k2
        by_cases hed : emptyB d = true
        · have hEd : d.toList.isEmpty = true := hed
          go_enter Try.func54, Try.ntmps54
          go_wp2_with fail
          refine (nameOk_any a _).mono ?_
          rintro e w1 ⟨rfl, rfl⟩
          rw [HA.out]
          go_wp2_with fail
          refine wp_region_held_drew (S := fun wx => Bl (w.alloc (.cells #[.int .i64 2, .string a, .string b, .string d] 45)) wx ∧ wx.cell? ⟨w.heap.size, 1, none⟩ = some (.string a) ∧ wx.cell? ⟨w.heap.size, 2, none⟩ = some (.string b)) (by kernel_rfl) ?_ (fun hHeld => ?_)
          · (first | exact ⟨Bl.drew_ (Bl.refl _), (box4 (Bl.drew_ (Bl.refl _))).2.1, (box4 (Bl.drew_ (Bl.refl _))).2.2.1⟩)
          refine wpAnyH_take (i := 0) (v := ?_) rfl (by kernel_rfl) (by kernel_rfl) (by kernel_rfl) (fun _ _ _ h => h) (Or.inl ⟨by kernel_rfl, ?_⟩) (by assumption) ?_
          rotate_left
          · (intro wx hSw; (try dsimp only at hSw); go_simp; try (with_reducible rfl))
          try simp only [Act.put, List.getElem_toArray, List.getElem_cons_succ, List.getElem_cons_zero, List.setIfInBounds_toArray, List.set_cons_zero, List.set_cons_succ]
          refine wpAnyH_take (i := 1) (v := ?_) rfl (by kernel_rfl) (by kernel_rfl) (by kernel_rfl) (fun _ _ _ h => h) (Or.inl ⟨by kernel_rfl, ?_⟩) (by assumption) ?_
          rotate_left
          · (intro wx hSw; (try dsimp only at hSw); go_simp; try (with_reducible rfl))
          try simp only [Act.put, List.getElem_toArray, List.getElem_cons_succ, List.getElem_cons_zero, List.setIfInBounds_toArray, List.set_cons_zero, List.set_cons_succ]
          refine wpAnyH_take (i := 2) (v := ?_) rfl (by kernel_rfl) (by kernel_rfl) (by kernel_rfl) (fun _ _ _ h => h) (Or.inl ⟨by kernel_rfl, ?_⟩) (by assumption) ?_
          rotate_left
          · (intro wx hSw; (try dsimp only at hSw); go_simp; try (with_reducible rfl))
          try simp only [Act.put, List.getElem_toArray, List.getElem_cons_succ, List.getElem_cons_zero, List.setIfInBounds_toArray, List.set_cons_zero, List.set_cons_succ]
          refine wpAnyH_take (i := 3) (v := ?_) rfl (by kernel_rfl) (by kernel_rfl) (by kernel_rfl) (fun _ _ _ h => h) (Or.inl ⟨by kernel_rfl, ?_⟩) (by assumption) ?_
          rotate_left
          · (intro wx hSw; (try dsimp only at hSw); go_simp; try (with_reducible rfl))
          try simp only [Act.put, List.getElem_toArray, List.getElem_cons_succ, List.getElem_cons_zero, List.setIfInBounds_toArray, List.set_cons_zero, List.set_cons_succ]
          refine wpAnyH_take (i := 4) (v := ?_) rfl (by kernel_rfl) (by kernel_rfl) (by kernel_rfl) (fun _ _ _ h => h) (Or.inl ⟨by kernel_rfl, ?_⟩) (by assumption) ?_
          rotate_left
          · (intro wx hSw; (try dsimp only at hSw); go_simp; try (with_reducible rfl))
          try simp only [Act.put, List.getElem_toArray, List.getElem_cons_succ, List.getElem_cons_zero, List.setIfInBounds_toArray, List.set_cons_zero, List.set_cons_succ]
          refine wpAnyH_take (i := 5) (v := ?_) rfl (by kernel_rfl) (by kernel_rfl) (by kernel_rfl) (fun _ _ _ h => h) (Or.inl ⟨by kernel_rfl, ?_⟩) (by assumption) ?_
          rotate_left
          · (intro wx hSw; (try dsimp only at hSw); go_simp; try (with_reducible rfl))
          try simp only [Act.put, List.getElem_toArray, List.getElem_cons_succ, List.getElem_cons_zero, List.setIfInBounds_toArray, List.set_cons_zero, List.set_cons_succ]
          refine wpAnyH_take (i := 6) (v := ?_) rfl (by kernel_rfl) (by kernel_rfl) (by kernel_rfl) (fun _ _ _ h => h) (Or.inl ⟨by kernel_rfl, ?_⟩) (by assumption) ?_
          rotate_left
          · (intro wx hSw; (try dsimp only at hSw); go_simp; try (with_reducible rfl))
          try simp only [Act.put, List.getElem_toArray, List.getElem_cons_succ, List.getElem_cons_zero, List.setIfInBounds_toArray, List.set_cons_zero, List.set_cons_succ]
          refine wpAnyH_take (i := 7) (v := ?_) rfl (by kernel_rfl) (by kernel_rfl) (by kernel_rfl) (fun _ _ _ h => h) (Or.inl ⟨by kernel_rfl, ?_⟩) (by assumption) ?_
          rotate_left
          · (intro wx hSw; (try dsimp only at hSw); go_simp; try (with_reducible rfl))
          try simp only [Act.put, List.getElem_toArray, List.getElem_cons_succ, List.getElem_cons_zero, List.setIfInBounds_toArray, List.set_cons_zero, List.set_cons_succ]
          refine wpAnyH_ready (rs := [8]) (by kernel_rfl) (by simp) ?_
          refine AllReadyH.cons rfl (fun K hK => ?_) AllReadyH.nil
          go_simp
          (go_at_call 97; refine (nameOk_any b _).mono ?_; rintro e w2 ⟨rfl, rfl⟩)
          try (go_wp2_with fail)
          refine hK.out _ _ ?_ (fun hHeld => ?_)
          · (first | exact ⟨Bl.drew_ (Bl.refl _), (box4 (Bl.drew_ (Bl.refl _))).2.1, (box4 (Bl.drew_ (Bl.refl _))).2.2.1⟩)
          clear hK K
          try simp only [Act.put, List.getElem_toArray, List.getElem_cons_succ, List.getElem_cons_zero, List.setIfInBounds_toArray, List.set_cons_zero, List.set_cons_succ]
          refine wpAnyH_take (i := 9) (v := ?_) rfl (by kernel_rfl) (by kernel_rfl) (by kernel_rfl) (fun _ _ _ h => h) (Or.inl ⟨by kernel_rfl, ?_⟩) (by assumption) ?_
          rotate_left
          · (intro wx hSw; (try dsimp only at hSw); go_simp; try (with_reducible rfl))
          try simp only [Act.put, List.getElem_toArray, List.getElem_cons_succ, List.getElem_cons_zero, List.setIfInBounds_toArray, List.set_cons_zero, List.set_cons_succ]
          refine wpAnyH_take (i := 10) (v := ?_) rfl (by kernel_rfl) (by kernel_rfl) (by kernel_rfl) (fun _ _ _ h => h) (Or.inl ⟨by kernel_rfl, ?_⟩) (by assumption) ?_
          rotate_left
          · (intro wx hSw; (try dsimp only at hSw); go_simp; try (with_reducible rfl))
          try simp only [Act.put, List.getElem_toArray, List.getElem_cons_succ, List.getElem_cons_zero, List.setIfInBounds_toArray, List.set_cons_zero, List.set_cons_succ]
          refine wpAnyH_done (by kernel_rfl) ?_ _
          go_wp2
          refine bodyPost_ret (v := .tuple #[.iface 131 (.agg #[.string a, .string b]), .bool (nameB b)]) (by simp [results, Try.results54, go_sem]) rfl ⟨⟨.iface 131 (.agg #[.string a, .string b]), by rw [show formB ⟨2, a, b, d⟩ = nameB b from by rw [HF.out, HA.out]; simp [hed]], fun h => rfl⟩, (Bl.alloc_ (Bl.refl w) _).trans_ hHeld.1⟩
        · have hEd : d.toList.isEmpty = false := by simpa [emptyB] using hed
          have hed0 : emptyB d = false := hEd
          go_enter Try.func54, Try.ntmps54
          go_wp2_with fail
          refine (nameOk_any a _).mono ?_
          rintro e w1 ⟨rfl, rfl⟩
          rw [HA.out]
          go_wp2
          refine bodyPost_ret (v := .tuple #[.nilIface, .bool false]) (by simp [results, Try.results54, go_sem]) rfl ⟨⟨.nilIface, by rw [show formB ⟨2, a, b, d⟩ = false from by rw [HF.out, HA.out]; simp [hed0]], fun h => absurd (h.symm.trans (show formB ⟨2, a, b, d⟩ = false from by rw [HF.out, HA.out]; simp [hed0])) (by simp)⟩, (by repeat' (first | exact Bl.refl _ | with_reducible assumption | with_reducible refine Bl.drew_ ?_ | with_reducible refine Bl.drewN_ ?_ _ | with_reducible refine Bl.alloc_ ?_ _ | with_reducible refine Bl.trans_ ?_ (by assumption) | with_reducible refine Bl.trans_ ?_ (And.left (by assumption))))⟩
      · have q1 : (q == 1) = false := by simpa using k1
        have q2 : (q == 2) = false := by simpa using k2
        have q1n : (q != 1) = true := by simpa using k1
        have q2n : (q != 2) = true := by simpa using k2
        by_cases heb : emptyB b = true
        · have hEb : b.toList.isEmpty = true := heb
          by_cases hed : emptyB d = true
          · have hEd : d.toList.isEmpty = true := hed
            by_cases k3 : q = 3
            · subst k3
              go_enter Try.func54, Try.ntmps54
              go_wp2_with fail
              refine (nameOk_any a _).mono ?_
              rintro e w1 ⟨rfl, rfl⟩
              rw [HA.out]
              go_wp2
              refine bodyPost_ret (v := .tuple #[.iface 133 (.agg #[.string a]), .bool true]) (by simp [results, Try.results54, go_sem]) rfl ⟨⟨.iface 133 (.agg #[.string a]), by rw [show formB ⟨3, a, b, d⟩ = true from by rw [HF.out, HA.out]; simp [heb, hed]], fun h => rfl⟩, (by repeat' (first | exact Bl.refl _ | with_reducible assumption | with_reducible refine Bl.drew_ ?_ | with_reducible refine Bl.drewN_ ?_ _ | with_reducible refine Bl.alloc_ ?_ _ | with_reducible refine Bl.trans_ ?_ (by assumption) | with_reducible refine Bl.trans_ ?_ (And.left (by assumption))))⟩
            · have q3 : (q == 3) = false := by simpa using k3
              have HQ := Lib.hid (show (decide (1 ≤ q) && decide (q ≤ 3)) = false from by simp; omega)
              go_enter Try.func54, Try.ntmps54
              go_wp2_with fail
              refine (nameOk_any a _).mono ?_
              rintro e w1 ⟨rfl, rfl⟩
              rw [HA.out]
              go_wp2
              refine bodyPost_ret (v := .tuple #[.nilIface, .bool false]) (by simp [results, Try.results54, go_sem]) rfl ⟨⟨.nilIface, by rw [show formB ⟨q, a, b, d⟩ = false from by rw [HF.out, HQ.out]; rfl], fun h => absurd (h.symm.trans (show formB ⟨q, a, b, d⟩ = false from by rw [HF.out, HQ.out]; rfl)) (by simp)⟩, (by repeat' (first | exact Bl.refl _ | with_reducible assumption | with_reducible refine Bl.drew_ ?_ | with_reducible refine Bl.drewN_ ?_ _ | with_reducible refine Bl.alloc_ ?_ _ | with_reducible refine Bl.trans_ ?_ (by assumption) | with_reducible refine Bl.trans_ ?_ (And.left (by assumption))))⟩
          · have hEd : d.toList.isEmpty = false := by simpa [emptyB] using hed
            have hed0 : emptyB d = false := hEd
            go_enter Try.func54, Try.ntmps54
            go_wp2_with fail
            refine (nameOk_any a _).mono ?_
            rintro e w1 ⟨rfl, rfl⟩
            rw [HA.out]
            go_wp2
            refine bodyPost_ret (v := .tuple #[.nilIface, .bool false]) (by simp [results, Try.results54, go_sem]) rfl ⟨⟨.nilIface, by rw [show formB ⟨q, a, b, d⟩ = false from by rw [HF.out, if_neg k2, decide_eq_false k1, hed0]; simp], fun h => absurd (h.symm.trans (show formB ⟨q, a, b, d⟩ = false from by rw [HF.out, if_neg k2, decide_eq_false k1, hed0]; simp)) (by simp)⟩, (by repeat' (first | exact Bl.refl _ | with_reducible assumption | with_reducible refine Bl.drew_ ?_ | with_reducible refine Bl.drewN_ ?_ _ | with_reducible refine Bl.alloc_ ?_ _ | with_reducible refine Bl.trans_ ?_ (by assumption) | with_reducible refine Bl.trans_ ?_ (And.left (by assumption))))⟩
        · have hEb : b.toList.isEmpty = false := by simpa [emptyB] using heb
          have heb0 : emptyB b = false := hEb
          go_enter Try.func54, Try.ntmps54
          go_wp2_with fail
          refine (nameOk_any a _).mono ?_
          rintro e w1 ⟨rfl, rfl⟩
          rw [HA.out]
          go_wp2
          refine bodyPost_ret (v := .tuple #[.nilIface, .bool false]) (by simp [results, Try.results54, go_sem]) rfl ⟨⟨.nilIface, by rw [show formB ⟨q, a, b, d⟩ = false from by rw [HF.out, if_neg k2, heb0]; simp], fun h => absurd (h.symm.trans (show formB ⟨q, a, b, d⟩ = false from by rw [HF.out, if_neg k2, heb0]; simp)) (by simp)⟩, (by repeat' (first | exact Bl.refl _ | with_reducible assumption | with_reducible refine Bl.drew_ ?_ | with_reducible refine Bl.drewN_ ?_ _ | with_reducible refine Bl.alloc_ ?_ _ | with_reducible refine Bl.trans_ ?_ (by assumption) | with_reducible refine Bl.trans_ ?_ (And.left (by assumption))))⟩
  · have ha0 : nameB a = false := by simpa using ha
    have HA := Lib.hid ha0
    clear ha ha0
    go_enter Try.func54, Try.ntmps54
    go_wp2_with fail
    refine (nameOk_any a _).mono ?_
    rintro e w1 ⟨rfl, rfl⟩
    rw [HA.out]
    go_wp2
    refine bodyPost_ret (v := .tuple #[.nilIface, .bool false]) (by simp [results, Try.results54, go_sem]) rfl ⟨⟨.nilIface, by rw [show formB ⟨q, a, b, d⟩ = false from by rw [HF.out, HA.out]; simp], fun h => absurd (h.symm.trans (show formB ⟨q, a, b, d⟩ = false from by rw [HF.out, HA.out]; simp)) (by simp)⟩, (by repeat' (first | exact Bl.refl _ | with_reducible assumption | with_reducible refine Bl.drew_ ?_ | with_reducible refine Bl.drewN_ ?_ _ | with_reducible refine Bl.alloc_ ?_ _ | with_reducible refine Bl.trans_ ?_ (by assumption) | with_reducible refine Bl.trans_ ?_ (And.left (by assumption))))⟩

end Go.Proofs.Ytipmjgciaalmbaa
