/-
  What is proved here: the program puts a file among others; what it makes of an op; the program's way of doing an op to files. No conditions beyond those that each theorem states.
-/
import Derived.Test.YtgfmgmcpfefmkaaV7G08
set_option linter.unusedSimpArgs false
set_option linter.unusedVariables false
namespace Go.Proofs.Ytgfmgmcpfefmkaa
open Go.RowKit

set_option maxRecDepth 100000 in
set_option maxHeartbeats 2000000 in
theorem put_any (A : Option Addr) (n c : Nat) (L : List Fl) (hn : n = L.length) (nm d : ByteArray) (w : World) (hm : n ≤ 1048000) (hs : SortedF L) (H1 : FilesAt w w.heap.size A L) :
    Calls Try.prog 77 #[.slice A n c, .agg #[.string nm, .string d]] w (FilesNew (putL L nm d) w) := by
  have K1 := Lib.hid H1
  have HN := Lib.hid hn
  have SC := Lib.hid (cut_sorted hs nm)
  have hcl := cut_len L nm
  clear H1 hn hs
  go_enter Try.func77, Try.ntmps77
  go_wp2_with fail
  refine (without_any A n c L HN.out nm _ (by omega) (K1.out.bl (by repeat' (first | exact Bl.refl _ | with_reducible assumption | with_reducible refine Bl.drew_ ?_ | with_reducible refine Bl.drewN_ ?_ _ | with_reducible refine Bl.alloc_ ?_ _ | with_reducible refine Bl.trans_ ?_ (by assumption) | with_reducible refine Bl.trans_ ?_ (And.left (by assumption)))))).mono ?_
  rintro e w1 ⟨v, rfl, hv, hb1⟩
  obtain ⟨q0, q1⟩ := box2 hb1
  have X1 := Lib.hid hb1
  have V := Lib.hid hv
  have hs1 := hb1.size
  have hws : w.heap.size < w1.heap.size := by simp at hs1; omega
  obtain ⟨A', c', rfl, hc', ha', -⟩ := own_shapeF hv
  have F1 := Lib.hid ha'
  obtain ⟨m, hm'⟩ : ∃ m, m = (cutL L nm).length := ⟨_, rfl⟩
  rw [← hm'] at hcl V
  rw [← hm']
  have HM := Lib.hid hm'
  have hmb : m ≤ 1048000 := by have := HN.out; omega
  clear hb1 hv ha' hm'
  go_wp2_with fail
  refine (placeOfFile_any nm A' m c' (cutL L nm) HM.out _ (by omega) SC.out F1.out).mono ?_
  rintro e w2 ⟨p, b, hp, rfl, hb2⟩
  have hpl := hp.1
  rw [← HM.out] at hpl
  have HI := Lib.hid (hp.ins d)
  have X2 := Lib.hid (X1.out.trans_ hb2)
  obtain ⟨q0, q1⟩ := box2 X2.out
  have BW := Lib.hid ((Bl.alloc_ (Bl.refl w) _).trans_ X2.out)
  have V2 := Lib.hid (show OwnF w2 w.heap.size (.slice A' m c') (cutL L nm) from (Owns.low (Owns.bl (show Owns _ _ _ _ _ _ _ from V.out) hb2) (by simp)))
  have hlt := Owns.lt_ (show Owns _ _ _ _ (.slice A' m c') _ _ from V2.out)
  clear hp hb2
  go_wp2_with fail
  refine (insertF_any w _ (cutL L nm) p m (nm, d) w2.heap.size 86 _ HM.out hmb hpl (BW.out.alloc_ _) (Owns.bl (show Owns _ _ _ _ _ _ _ from V2.out) (Bl.alloc_ (Bl.refl w2) _)) (heap_alloc_new w2 _) (fun g hg => by
    have := hlt g (by rw [← ownBlock_slice A' m c']; exact hg)
    omega)).mono ?_
  rintro e w3 ⟨⟨v3, rfl, hv3⟩, hb3⟩
  rw [HI.out] at hv3
  have V3 := Lib.hid hv3
  clear hv3
  go_wp2
  go_ret
  exact ⟨_, rfl, V3.out, hb3⟩

/-- What the program makes of an op that has its form. -/
def opV (o : Dp) : Value :=
  if o.kind = 1 then .iface 105 (.agg #[.string o.name, .string o.data])
  else if o.kind = 2 then .iface 107 (.agg #[.string o.name, .string o.to])
  else .iface 109 (.agg #[.string o.name])
def OpMade (o : Dp) (w : World) (e : Ending) (w' : World) : Prop := (∃ x, e = .returned (.tuple #[x, .bool (formB o)]) ∧ (formB o = true → x = opV o)) ∧ Bl w w'

set_option maxRecDepth 100000 in
set_option maxHeartbeats 4000000 in
theorem opOf_any (o : Dp) (w : World) : Calls Try.prog 39 #[.agg #[.int .i64 o.kind, .string o.name, .string o.to, .string o.data]] w (OpMade o w) := by
  obtain ⟨q, a, b, d⟩ := o
  show Calls Try.prog 39 #[.agg #[.int .i64 q, .string a, .string b, .string d]] w _
  have HF := Lib.hid (show formB ⟨q, a, b, d⟩ = (decide (1 ≤ q) && decide (q ≤ 3) && nameB a && (if q = 2 then nameB b && emptyB d else emptyB b && (decide (q = 1) || emptyB d))) from rfl)
  by_cases ha : nameB a = true
  · have HA := Lib.hid ha
    clear ha
    by_cases k1 : q = 1
    · subst k1
      by_cases heb : emptyB b = true
      · have hEb : b.toList.isEmpty = true := heb
        go_enter Try.func39, Try.ntmps39
        go_wp2_with fail
        refine (nameOk_any a _).mono ?_
        rintro e w1 ⟨rfl, rfl⟩
        rw [HA.out]
        go_wp2
        refine bodyPost_ret (v := .tuple #[.iface 105 (.agg #[.string a, .string d]), .bool true]) (by simp [results, Try.results39, go_sem]) rfl ⟨⟨.iface 105 (.agg #[.string a, .string d]), by rw [show formB ⟨1, a, b, d⟩ = true from by rw [HF.out, HA.out]; simp [heb]], fun h => rfl⟩, (by repeat' (first | exact Bl.refl _ | with_reducible assumption | with_reducible refine Bl.drew_ ?_ | with_reducible refine Bl.drewN_ ?_ _ | with_reducible refine Bl.alloc_ ?_ _ | with_reducible refine Bl.trans_ ?_ (by assumption) | with_reducible refine Bl.trans_ ?_ (And.left (by assumption))))⟩
      · have hEb : b.toList.isEmpty = false := by simpa [emptyB] using heb
        have heb0 : emptyB b = false := hEb
        go_enter Try.func39, Try.ntmps39
        go_wp2_with fail
        refine (nameOk_any a _).mono ?_
        rintro e w1 ⟨rfl, rfl⟩
        rw [HA.out]
        go_wp2
        refine bodyPost_ret (v := .tuple #[.nilIface, .bool false]) (by simp [results, Try.results39, go_sem]) rfl ⟨⟨.nilIface, by rw [show formB ⟨1, a, b, d⟩ = false from by rw [HF.out, HA.out]; simp [heb0]], fun h => absurd (h.symm.trans (show formB ⟨1, a, b, d⟩ = false from by rw [HF.out, HA.out]; simp [heb0])) (by simp)⟩, (by repeat' (first | exact Bl.refl _ | with_reducible assumption | with_reducible refine Bl.drew_ ?_ | with_reducible refine Bl.drewN_ ?_ _ | with_reducible refine Bl.alloc_ ?_ _ | with_reducible refine Bl.trans_ ?_ (by assumption) | with_reducible refine Bl.trans_ ?_ (And.left (by assumption))))⟩
    · by_cases k2 : q = 2
      · subst k2
        by_cases hed : emptyB d = true
        · have hEd : d.toList.isEmpty = true := hed
          go_enter Try.func39, Try.ntmps39
          go_wp2_with fail
          refine (nameOk_any a _).mono ?_
          rintro e w1 ⟨rfl, rfl⟩
          rw [HA.out]
          go_wp2_with fail
          refine wp_region_held_drew (S := fun wx => Bl (w.alloc (.cells #[.int .i64 2, .string a, .string b, .string d] 51)) wx ∧ wx.cell? ⟨w.heap.size, 1, none⟩ = some (.string a) ∧ wx.cell? ⟨w.heap.size, 2, none⟩ = some (.string b)) (by kernel_rfl) ?_ (fun hHeld => ?_)
          · (first | exact ⟨Bl.drew_ (Bl.refl _), (box4 (Bl.drew_ (Bl.refl _))).2.1, (box4 (Bl.drew_ (Bl.refl _))).2.2.1⟩)
          refine wpAnyH_take (i := 0) (v := ?_) rfl (by kernel_rfl) (by kernel_rfl) (by kernel_rfl) (fun _ _ _ h => h) (Or.inl ⟨by kernel_rfl, ?_⟩) (by assumption) ?_
          rotate_left
          · (intro wx hSw; (try dsimp only at hSw); go_simp; try (with_reducible rfl))
          try simp only [Act.put, List.getElem_toArray, List.getElem_cons_succ, List.getElem_cons_zero, List.setIfInBounds_toArray, List.set_cons_zero, List.set_cons_succ]
          refine wpAnyH_take (i := 1) (v := ?_) rfl (by kernel_rfl) (by kernel_rfl) (by kernel_rfl) (fun _ _ _ h => h) (Or.inl ⟨by kernel_rfl, ?_⟩) (by assumption) ?_
          rotate_left
          · (intro wx hSw; (try dsimp only at hSw); go_simp; try (with_reducible rfl))
          try simp only [Act.put, List.getElem_toArray, List.getElem_cons_succ, List.getElem_cons_zero, List.setIfInBounds_toArray, List.set_cons_zero, List.set_cons_succ]
          refine wpAnyH_take (i := 2) (v := ?_) rfl (by kernel_rfl) (by kernel_rfl) (by kernel_rfl) (fun _ _ _ h => h) (Or.inl ⟨by kernel_rfl, ?_⟩) (by assumption) ?_
          rotate_left
          · (intro wx hSw; (try dsimp only at hSw); go_simp; try (with_reducible rfl))
          try simp only [Act.put, List.getElem_toArray, List.getElem_cons_succ, List.getElem_cons_zero, List.setIfInBounds_toArray, List.set_cons_zero, List.set_cons_succ]
          refine wpAnyH_take (i := 3) (v := ?_) rfl (by kernel_rfl) (by kernel_rfl) (by kernel_rfl) (fun _ _ _ h => h) (Or.inl ⟨by kernel_rfl, ?_⟩) (by assumption) ?_
          rotate_left
          · (intro wx hSw; (try dsimp only at hSw); go_simp; try (with_reducible rfl))
          try simp only [Act.put, List.getElem_toArray, List.getElem_cons_succ, List.getElem_cons_zero, List.setIfInBounds_toArray, List.set_cons_zero, List.set_cons_succ]
          refine wpAnyH_take (i := 4) (v := ?_) rfl (by kernel_rfl) (by kernel_rfl) (by kernel_rfl) (fun _ _ _ h => h) (Or.inl ⟨by kernel_rfl, ?_⟩) (by assumption) ?_
          rotate_left
          · (intro wx hSw; (try dsimp only at hSw); go_simp; try (with_reducible rfl))
          try simp only [Act.put, List.getElem_toArray, List.getElem_cons_succ, List.getElem_cons_zero, List.setIfInBounds_toArray, List.set_cons_zero, List.set_cons_succ]
          refine wpAnyH_take (i := 5) (v := ?_) rfl (by kernel_rfl) (by kernel_rfl) (by kernel_rfl) (fun _ _ _ h => h) (Or.inl ⟨by kernel_rfl, ?_⟩) (by assumption) ?_
          rotate_left
          · (intro wx hSw; (try dsimp only at hSw); go_simp; try (with_reducible rfl))
          try simp only [Act.put, List.getElem_toArray, List.getElem_cons_succ, List.getElem_cons_zero, List.setIfInBounds_toArray, List.set_cons_zero, List.set_cons_succ]
          refine wpAnyH_take (i := 6) (v := ?_) rfl (by kernel_rfl) (by kernel_rfl) (by kernel_rfl) (fun _ _ _ h => h) (Or.inl ⟨by kernel_rfl, ?_⟩) (by assumption) ?_
          rotate_left
          · (intro wx hSw; (try dsimp only at hSw); go_simp; try (with_reducible rfl))
          try simp only [Act.put, List.getElem_toArray, List.getElem_cons_succ, List.getElem_cons_zero, List.setIfInBounds_toArray, List.set_cons_zero, List.set_cons_succ]
          refine wpAnyH_take (i := 7) (v := ?_) rfl (by kernel_rfl) (by kernel_rfl) (by kernel_rfl) (fun _ _ _ h => h) (Or.inl ⟨by kernel_rfl, ?_⟩) (by assumption) ?_
          rotate_left
          · (intro wx hSw; (try dsimp only at hSw); go_simp; try (with_reducible rfl))
          try simp only [Act.put, List.getElem_toArray, List.getElem_cons_succ, List.getElem_cons_zero, List.setIfInBounds_toArray, List.set_cons_zero, List.set_cons_succ]
          refine wpAnyH_ready (rs := [8]) (by kernel_rfl) (by simp) ?_
          refine AllReadyH.cons rfl (fun K hK => ?_) AllReadyH.nil
          go_simp
          (go_at_call 76; refine (nameOk_any b _).mono ?_; rintro e w2 ⟨rfl, rfl⟩)
          try (go_wp2_with fail)
          refine hK.out _ _ ?_ (fun hHeld => ?_)
          · (first | exact ⟨Bl.drew_ (Bl.refl _), (box4 (Bl.drew_ (Bl.refl _))).2.1, (box4 (Bl.drew_ (Bl.refl _))).2.2.1⟩)
          clear hK K
          try simp only [Act.put, List.getElem_toArray, List.getElem_cons_succ, List.getElem_cons_zero, List.setIfInBounds_toArray, List.set_cons_zero, List.set_cons_succ]
          refine wpAnyH_take (i := 9) (v := ?_) rfl (by kernel_rfl) (by kernel_rfl) (by kernel_rfl) (fun _ _ _ h => h) (Or.inl ⟨by kernel_rfl, ?_⟩) (by assumption) ?_
          rotate_left
          · (intro wx hSw; (try dsimp only at hSw); go_simp; try (with_reducible rfl))
          try simp only [Act.put, List.getElem_toArray, List.getElem_cons_succ, List.getElem_cons_zero, List.setIfInBounds_toArray, List.set_cons_zero, List.set_cons_succ]
          refine wpAnyH_take (i := 10) (v := ?_) rfl (by kernel_rfl) (by kernel_rfl) (by kernel_rfl) (fun _ _ _ h => h) (Or.inl ⟨by kernel_rfl, ?_⟩) (by assumption) ?_
          rotate_left
          · (intro wx hSw; (try dsimp only at hSw); go_simp; try (with_reducible rfl))
          try simp only [Act.put, List.getElem_toArray, List.getElem_cons_succ, List.getElem_cons_zero, List.setIfInBounds_toArray, List.set_cons_zero, List.set_cons_succ]
          refine wpAnyH_done (by kernel_rfl) ?_ _
          go_wp2
          refine bodyPost_ret (v := .tuple #[.iface 107 (.agg #[.string a, .string b]), .bool (nameB b)]) (by simp [results, Try.results39, go_sem]) rfl ⟨⟨.iface 107 (.agg #[.string a, .string b]), by rw [show formB ⟨2, a, b, d⟩ = nameB b from by rw [HF.out, HA.out]; simp [hed]], fun h => rfl⟩, (Bl.alloc_ (Bl.refl w) _).trans_ hHeld.1⟩
        · have hEd : d.toList.isEmpty = false := by simpa [emptyB] using hed
          have hed0 : emptyB d = false := hEd
          go_enter Try.func39, Try.ntmps39
          go_wp2_with fail
          refine (nameOk_any a _).mono ?_
          rintro e w1 ⟨rfl, rfl⟩
          rw [HA.out]
          go_wp2
          refine bodyPost_ret (v := .tuple #[.nilIface, .bool false]) (by simp [results, Try.results39, go_sem]) rfl ⟨⟨.nilIface, by rw [show formB ⟨2, a, b, d⟩ = false from by rw [HF.out, HA.out]; simp [hed0]], fun h => absurd (h.symm.trans (show formB ⟨2, a, b, d⟩ = false from by rw [HF.out, HA.out]; simp [hed0])) (by simp)⟩, (by repeat' (first | exact Bl.refl _ | with_reducible assumption | with_reducible refine Bl.drew_ ?_ | with_reducible refine Bl.drewN_ ?_ _ | with_reducible refine Bl.alloc_ ?_ _ | with_reducible refine Bl.trans_ ?_ (by assumption) | with_reducible refine Bl.trans_ ?_ (And.left (by assumption))))⟩
      · have q1 : (q == 1) = false := by simpa using k1
        have q2 : (q == 2) = false := by simpa using k2
        have q1n : (q != 1) = true := by simpa using k1
        have q2n : (q != 2) = true := by simpa using k2
        by_cases heb : emptyB b = true
        · have hEb : b.toList.isEmpty = true := heb
          by_cases hed : emptyB d = true
          · have hEd : d.toList.isEmpty = true := hed
            by_cases k3 : q = 3
            · subst k3
              go_enter Try.func39, Try.ntmps39
              go_wp2_with fail
              refine (nameOk_any a _).mono ?_
              rintro e w1 ⟨rfl, rfl⟩
              rw [HA.out]
              go_wp2
              refine bodyPost_ret (v := .tuple #[.iface 109 (.agg #[.string a]), .bool true]) (by simp [results, Try.results39, go_sem]) rfl ⟨⟨.iface 109 (.agg #[.string a]), by rw [show formB ⟨3, a, b, d⟩ = true from by rw [HF.out, HA.out]; simp [heb, hed]], fun h => rfl⟩, (by repeat' (first | exact Bl.refl _ | with_reducible assumption | with_reducible refine Bl.drew_ ?_ | with_reducible refine Bl.drewN_ ?_ _ | with_reducible refine Bl.alloc_ ?_ _ | with_reducible refine Bl.trans_ ?_ (by assumption) | with_reducible refine Bl.trans_ ?_ (And.left (by assumption))))⟩
            · have q3 : (q == 3) = false := by simpa using k3
              have HQ := Lib.hid (show (decide (1 ≤ q) && decide (q ≤ 3)) = false from by simp; omega)
              go_enter Try.func39, Try.ntmps39
              go_wp2_with fail
              refine (nameOk_any a _).mono ?_
              rintro e w1 ⟨rfl, rfl⟩
              rw [HA.out]
              go_wp2
              refine bodyPost_ret (v := .tuple #[.nilIface, .bool false]) (by simp [results, Try.results39, go_sem]) rfl ⟨⟨.nilIface, by rw [show formB ⟨q, a, b, d⟩ = false from by rw [HF.out, HQ.out]; rfl], fun h => absurd (h.symm.trans (show formB ⟨q, a, b, d⟩ = false from by rw [HF.out, HQ.out]; rfl)) (by simp)⟩, (by repeat' (first | exact Bl.refl _ | with_reducible assumption | with_reducible refine Bl.drew_ ?_ | with_reducible refine Bl.drewN_ ?_ _ | with_reducible refine Bl.alloc_ ?_ _ | with_reducible refine Bl.trans_ ?_ (by assumption) | with_reducible refine Bl.trans_ ?_ (And.left (by assumption))))⟩
          · have hEd : d.toList.isEmpty = false := by simpa [emptyB] using hed
            have hed0 : emptyB d = false := hEd
            go_enter Try.func39, Try.ntmps39
            go_wp2_with fail
            refine (nameOk_any a _).mono ?_
            rintro e w1 ⟨rfl, rfl⟩
            rw [HA.out]
            go_wp2
            refine bodyPost_ret (v := .tuple #[.nilIface, .bool false]) (by simp [results, Try.results39, go_sem]) rfl ⟨⟨.nilIface, by rw [show formB ⟨q, a, b, d⟩ = false from by rw [HF.out, if_neg k2, decide_eq_false k1, hed0]; simp], fun h => absurd (h.symm.trans (show formB ⟨q, a, b, d⟩ = false from by rw [HF.out, if_neg k2, decide_eq_false k1, hed0]; simp)) (by simp)⟩, (by repeat' (first | exact Bl.refl _ | with_reducible assumption | with_reducible refine Bl.drew_ ?_ | with_reducible refine Bl.drewN_ ?_ _ | with_reducible refine Bl.alloc_ ?_ _ | with_reducible refine Bl.trans_ ?_ (by assumption) | with_reducible refine Bl.trans_ ?_ (And.left (by assumption))))⟩
        · have hEb : b.toList.isEmpty = false := by simpa [emptyB] using heb
          have heb0 : emptyB b = false := hEb
          go_enter Try.func39, Try.ntmps39
          go_wp2_with fail
          refine (nameOk_any a _).mono ?_
          rintro e w1 ⟨rfl, rfl⟩
          rw [HA.out]
          go_wp2
          refine bodyPost_ret (v := .tuple #[.nilIface, .bool false]) (by simp [results, Try.results39, go_sem]) rfl ⟨⟨.nilIface, by rw [show formB ⟨q, a, b, d⟩ = false from by rw [HF.out, if_neg k2, heb0]; simp], fun h => absurd (h.symm.trans (show formB ⟨q, a, b, d⟩ = false from by rw [HF.out, if_neg k2, heb0]; simp)) (by simp)⟩, (by repeat' (first | exact Bl.refl _ | with_reducible assumption | with_reducible refine Bl.drew_ ?_ | with_reducible refine Bl.drewN_ ?_ _ | with_reducible refine Bl.alloc_ ?_ _ | with_reducible refine Bl.trans_ ?_ (by assumption) | with_reducible refine Bl.trans_ ?_ (And.left (by assumption))))⟩
  · have ha0 : nameB a = false := by simpa using ha
    have HA := Lib.hid ha0
    clear ha ha0
    go_enter Try.func39, Try.ntmps39
    go_wp2_with fail
    refine (nameOk_any a _).mono ?_
    rintro e w1 ⟨rfl, rfl⟩
    rw [HA.out]
    go_wp2
    refine bodyPost_ret (v := .tuple #[.nilIface, .bool false]) (by simp [results, Try.results39, go_sem]) rfl ⟨⟨.nilIface, by rw [show formB ⟨q, a, b, d⟩ = false from by rw [HF.out, HA.out]; simp], fun h => absurd (h.symm.trans (show formB ⟨q, a, b, d⟩ = false from by rw [HF.out, HA.out]; simp)) (by simp)⟩, (by repeat' (first | exact Bl.refl _ | with_reducible assumption | with_reducible refine Bl.drew_ ?_ | with_reducible refine Bl.drewN_ ?_ _ | with_reducible refine Bl.alloc_ ?_ _ | with_reducible refine Bl.trans_ ?_ (by assumption) | with_reducible refine Bl.trans_ ?_ (And.left (by assumption))))⟩

end Go.Proofs.Ytgfmgmcpfefmkaa

set_option linter.unusedSimpArgs false
set_option linter.unusedVariables false
namespace Go.Proofs.Ytgfmgmcpfefmkaa
open Go.RowKit

theorem ta_yes {P : Program} {t : TypeId} {fs : Array Field} (h : P.underlying t = some (.struct fs)) (v : Value) (xT : TypeId) (w : World) : (Instr.typeAssert (.iface t v) xT t true).run P w = .ok (.tuple #[v, .bool true]) w := by
  simp [Instr.typeAssert, run_underlying h]
theorem ta_no {P : Program} {t t' : TypeId} {fs : Array Field} {z : Value} (h : P.underlying t' = some (.struct fs)) (hz : (P.info? t').map (·.zero) = some (some z)) (hne : t ≠ t') (v : Value) (xT : TypeId) (w : World) : (Instr.typeAssert (.iface t v) xT t' true).run P w = .ok (.tuple #[z, .bool false]) w := by
  obtain ⟨i, hi, hiz⟩ : ∃ i, P.info? t' = some i ∧ i.zero = some z := by
    cases hq : P.info? t' with
    | none => simp [hq] at hz
    | some i => exact ⟨i, rfl, by simpa [hq] using hz⟩
  simp [Instr.typeAssert, run_underlying h, hne, zeroValue, typeInfo, hi, hiz]
theorem ta11 (v : Value) (xT : TypeId) (w : World) : (Instr.typeAssert (.iface 105 v) xT 105 true).run Try.prog w = .ok (.tuple #[v, .bool true]) w := ta_yes Try.underlying105 v xT w
theorem ta22 (v : Value) (xT : TypeId) (w : World) : (Instr.typeAssert (.iface 107 v) xT 107 true).run Try.prog w = .ok (.tuple #[v, .bool true]) w := ta_yes Try.underlying107 v xT w
theorem ta33 (v : Value) (xT : TypeId) (w : World) : (Instr.typeAssert (.iface 109 v) xT 109 true).run Try.prog w = .ok (.tuple #[v, .bool true]) w := ta_yes Try.underlying109 v xT w
theorem ta21 (v : Value) (xT : TypeId) (w : World) : (Instr.typeAssert (.iface 107 v) xT 105 true).run Try.prog w = .ok (.tuple #[.agg #[.string ⟨#[]⟩, .string ⟨#[]⟩], .bool false]) w := ta_no Try.underlying105 (by kernel_rfl) (by decide) v xT w
theorem ta31 (v : Value) (xT : TypeId) (w : World) : (Instr.typeAssert (.iface 109 v) xT 105 true).run Try.prog w = .ok (.tuple #[.agg #[.string ⟨#[]⟩, .string ⟨#[]⟩], .bool false]) w := ta_no Try.underlying105 (by kernel_rfl) (by decide) v xT w
theorem ta32 (v : Value) (xT : TypeId) (w : World) : (Instr.typeAssert (.iface 109 v) xT 107 true).run Try.prog w = .ok (.tuple #[.agg #[.string ⟨#[]⟩, .string ⟨#[]⟩], .bool false]) w := ta_no Try.underlying107 (by kernel_rfl) (by decide) v xT w

set_option maxHeartbeats 400000 in
theorem file1_any (a b : ByteArray) (w : World) : Calls Try.prog 124 #[.agg #[.string a, .string b]] w fun e w' => e = .returned (.string a) ∧ Bl w w' := by
  go_enter Try.func124, Try.ntmps124
  go_wp2
  go_ret
  exact ⟨rfl, (by repeat' (first | exact Bl.refl _ | with_reducible assumption | with_reducible refine Bl.drew_ ?_ | with_reducible refine Bl.drewN_ ?_ _ | with_reducible refine Bl.alloc_ ?_ _ | with_reducible refine Bl.trans_ ?_ (by assumption) | with_reducible refine Bl.trans_ ?_ (And.left (by assumption))))⟩
set_option maxHeartbeats 400000 in
theorem file2_any (a b : ByteArray) (w : World) : Calls Try.prog 125 #[.agg #[.string a, .string b]] w fun e w' => e = .returned (.string a) ∧ Bl w w' := by
  go_enter Try.func125, Try.ntmps125
  go_wp2
  go_ret
  exact ⟨rfl, (by repeat' (first | exact Bl.refl _ | with_reducible assumption | with_reducible refine Bl.drew_ ?_ | with_reducible refine Bl.drewN_ ?_ _ | with_reducible refine Bl.alloc_ ?_ _ | with_reducible refine Bl.trans_ ?_ (by assumption) | with_reducible refine Bl.trans_ ?_ (And.left (by assumption))))⟩
set_option maxHeartbeats 400000 in
theorem file3_any (a : ByteArray) (w : World) : Calls Try.prog 126 #[.agg #[.string a]] w fun e w' => e = .returned (.string a) ∧ Bl w w' := by
  go_enter Try.func126, Try.ntmps126
  go_wp2
  go_ret
  exact ⟨rfl, (by repeat' (first | exact Bl.refl _ | with_reducible assumption | with_reducible refine Bl.drew_ ?_ | with_reducible refine Bl.drewN_ ?_ _ | with_reducible refine Bl.alloc_ ?_ _ | with_reducible refine Bl.trans_ ?_ (by assumption) | with_reducible refine Bl.trans_ ?_ (And.left (by assumption))))⟩

theorem form_kinds {q : Int} {a b d : ByteArray} (h : formB ⟨q, a, b, d⟩ = true) : q = 1 ∨ q = 2 ∨ q = 3 := by
  unfold formB at h
  simp only [Bool.and_eq_true, decide_eq_true_eq] at h
  omega
theorem opV1 (a b d : ByteArray) : opV ⟨1, a, b, d⟩ = .iface 105 (.agg #[.string a, .string d]) := rfl
theorem opV2 (a b d : ByteArray) : opV ⟨2, a, b, d⟩ = .iface 107 (.agg #[.string a, .string b]) := rfl
theorem opV3 (a b d : ByteArray) : opV ⟨3, a, b, d⟩ = .iface 109 (.agg #[.string a]) := rfl

set_option maxRecDepth 100000 in
set_option maxHeartbeats 4000000 in
theorem finds_any (A : Option Addr) (n c : Nat) (L : List Fl) (hn : n = L.length) (o : Dp) (hf : formB o = true) (w : World) (hm : n ≤ 1048576) (hs : SortedF L) (H1 : FilesAt w w.heap.size A L) :
    Calls Try.prog 59 #[.slice A n c, opV o] w fun e w' => e = .returned (.bool (foundB L o)) ∧ Bl w w' := by
  obtain ⟨q, a, b, d⟩ := o
  have K1 := Lib.hid H1
  have HN := Lib.hid hn
  have HS := Lib.hid hs
  clear H1 hn hs
  rcases form_kinds hf with rfl | rfl | rfl
  · rw [opV1]
    clear hf
    have t1 := ta11
    go_enter Try.func59, Try.ntmps59
    go_wp2
    go_ret
    exact ⟨ret_bool rfl, Bl.refl w⟩
  · rw [opV2]
    clear hf
    have t1 := ta21
    have HF := Lib.hid (show foundB L ⟨2, a, b, d⟩ = hasL L a from rfl)
    go_enter Try.func59, Try.ntmps59
    go_wp2_with fail
    refine (file2_any a b _).mono ?_
    rintro e w1 ⟨rfl, hb1⟩
    have B1 := Lib.hid hb1
    clear hb1
    go_wp2_with fail
    refine (hasFile_any a A n c L HN.out _ (by omega) HS.out (K1.out.bl B1.out)).mono ?_
    rintro e w2 ⟨rfl, hb2⟩
    have B2 := Lib.hid (B1.out.trans_ hb2)
    rw [← HF.out]
    clear hb2
    go_wp2
    go_ret
    exact ⟨rfl, B2.out⟩
  · rw [opV3]
    clear hf
    have t1 := ta31
    have HF := Lib.hid (show foundB L ⟨3, a, b, d⟩ = hasL L a from rfl)
    go_enter Try.func59, Try.ntmps59
    go_wp2_with fail
    refine (file3_any a _).mono ?_
    rintro e w1 ⟨rfl, hb1⟩
    have B1 := Lib.hid hb1
    clear hb1
    go_wp2_with fail
    refine (hasFile_any a A n c L HN.out _ (by omega) HS.out (K1.out.bl B1.out)).mono ?_
    rintro e w2 ⟨rfl, hb2⟩
    have B2 := Lib.hid (B1.out.trans_ hb2)
    rw [← HF.out]
    clear hb2
    go_wp2
    go_ret
    exact ⟨rfl, B2.out⟩

set_option maxRecDepth 100000 in
set_option maxHeartbeats 8000000 in
theorem done_any (A : Option Addr) (n c : Nat) (L : List Fl) (hn : n = L.length) (o : Dp) (hf : formB o = true) (w : World) (hm : n ≤ 400000) (hsm : sumL L ≤ 4194304) (hos : o.data.size ≤ 4194304) (hs : SortedF L) (H1 : FilesAt w w.heap.size A L) :
    Calls Try.prog 41 #[.slice A n c, opV o] w (FilesNew (doL L o) w) := by
  obtain ⟨q, a, b, d⟩ := o
  simp only at hos
  have K1 := Lib.hid H1
  have HN := Lib.hid hn
  have HS := Lib.hid hs
  have hdl := data_le (L := L) a
  clear H1 hn hs
  rcases form_kinds hf with rfl | rfl | rfl
  · rw [opV1]
    clear hf
    have t1 := ta11
    have HD := Lib.hid (show doL L ⟨1, a, b, d⟩ = putL L a (dataL L a ++ d) from by unfold doL; rw [if_pos rfl])
    go_enter Try.func41, Try.ntmps41
    go_wp2_with fail
    refine (file1_any a d _).mono ?_
    rintro e w1 ⟨rfl, hb1⟩
    have B1 := Lib.hid hb1
    clear hb1
    go_wp2_with fail
    refine (dataOf_any a A n c L HN.out _ (by omega) HS.out (K1.out.bl B1.out)).mono ?_
    rintro e w2 ⟨rfl, hb2⟩
    have B2 := Lib.hid (B1.out.trans_ hb2)
    obtain ⟨x, hx⟩ : ∃ x, x = dataL L a := ⟨_, rfl⟩
    rw [← hx] at hdl HD
    rw [← hx]
    obtain ⟨y, hy⟩ : ∃ y, y = hasL L a := ⟨_, rfl⟩
    rw [← hy]
    have hsz : ((x.size + d.size : Nat) : Int) ≤ IntKind.i64.max := by rw [show IntKind.i64.max = 9223372036854775807 from by decide]; omega
    clear hb2 hx hy
    go_wp2_with fail
    refine (put_any A n c L HN.out a (x ++ d) _ (by omega) HS.out (K1.out.bl (B2.out.alloc_ _))).mono ?_
    rintro e w3 ⟨v, rfl, hv, hb3⟩
    have V := Lib.hid hv
    have B3 := Lib.hid ((B2.out.alloc_ _).trans_ hb3)
    have s2 := B2.out.size
    clear hv hb3
    go_wp2
    go_ret
    exact ⟨_, rfl, by rw [HD.out]; exact V.out.low (by simp; omega), B3.out⟩
  · rw [opV2]
    clear hf
    have t1 := ta21
    have t2 := ta22
    cases hh : hasL L a with
    | true =>
      have HD := Lib.hid (show doL L ⟨2, a, b, d⟩ = putL (cutL L a) b (dataL L a) from by unfold doL; rw [if_neg (show ¬ (2 : Int) = 1 from by decide), if_pos hh, if_pos rfl])
      have HH := Lib.hid hh
      clear hh
      go_enter Try.func41, Try.ntmps41
      go_wp2_with fail
      refine (file2_any a b _).mono ?_
      rintro e w1 ⟨rfl, hb1⟩
      have B1 := Lib.hid hb1
      clear hb1
      go_wp2_with fail
      refine (dataOf_any a A n c L HN.out _ (by omega) HS.out (K1.out.bl B1.out)).mono ?_
      rintro e w2 ⟨rfl, hb2⟩
      have B2 := Lib.hid (B1.out.trans_ hb2)
      obtain ⟨x, hx⟩ : ∃ x, x = dataL L a := ⟨_, rfl⟩
      rw [← hx] at hdl HD
      rw [← hx, HH.out]
      clear hb2 hx
      have X2 := Lib.hid (show Bl w (w2.alloc (.cells #[.string a, .string b] 107)) from B2.out.alloc_ _)
      have s2 := B2.out.size
      have HSH := Lib.hid (show ∀ wx, Bl (w2.alloc (.cells #[.string a, .string b] 107)) wx → Bl (w2.alloc (.cells #[.string a, .string b] 107)) wx ∧ wx.cell? ⟨w2.heap.size, 0, none⟩ = some (.string a) ∧ wx.cell? ⟨w2.heap.size, 1, none⟩ = some (.string b) from fun wx hb => ⟨hb, (box2 hb).1, (box2 hb).2⟩)
      have SC := Lib.hid (cut_sorted HS.out a)
      have hlc := cut_len L a
      obtain ⟨m, hm'⟩ : ∃ m, m = (cutL L a).length := ⟨_, rfl⟩
      rw [← hm'] at hlc
      have HM := Lib.hid hm'
      have hmb : m ≤ 400000 := by have := HN.out; omega
      clear hm'
      go_wp2_with fail
      refine wp_region_held_drew (S := fun wx => Bl (w2.alloc (.cells #[.string a, .string b] 107)) wx ∧ wx.cell? ⟨w2.heap.size, 0, none⟩ = some (.string a) ∧ wx.cell? ⟨w2.heap.size, 1, none⟩ = some (.string b)) (by kernel_rfl) ?_ (fun hHeld => ?_)
      · (first | exact HSH.out _ (Bl.drew_ (Bl.refl _)) | exact HSH.out _ ((Bl.drew_ (Bl.refl _)).trans_ hb3) | exact HSH.out _ (((Bl.drew_ (Bl.refl _)).trans_ hb3).trans_ hb4))
      refine wpAnyH_take (i := 0) (v := ?_) rfl (by kernel_rfl) (by kernel_rfl) (by kernel_rfl) (fun _ _ _ h => h) (Or.inl ⟨by kernel_rfl, ?_⟩) (by assumption) ?_
      rotate_left
      · (intro wx hSw; (try dsimp only at hSw); go_simp; try (with_reducible rfl))
      try simp only [Act.put, List.getElem_toArray, List.getElem_cons_succ, List.getElem_cons_zero, List.setIfInBounds_toArray, List.set_cons_zero, List.set_cons_succ]
      refine wpAnyH_take (i := 1) (v := ?_) rfl (by kernel_rfl) (by kernel_rfl) (by kernel_rfl) (fun _ _ _ h => h) (Or.inl ⟨by kernel_rfl, ?_⟩) (by assumption) ?_
      rotate_left
      · (intro wx hSw; (try dsimp only at hSw); go_simp; try (with_reducible rfl))
      try simp only [Act.put, List.getElem_toArray, List.getElem_cons_succ, List.getElem_cons_zero, List.setIfInBounds_toArray, List.set_cons_zero, List.set_cons_succ]
      refine wpAnyH_take (i := 2) (v := ?_) rfl (by kernel_rfl) (by kernel_rfl) (by kernel_rfl) (fun _ _ _ h => h) (Or.inl ⟨by kernel_rfl, ?_⟩) (by assumption) ?_
      rotate_left
      · (intro wx hSw; (try dsimp only at hSw); go_simp; try (with_reducible rfl))
      try simp only [Act.put, List.getElem_toArray, List.getElem_cons_succ, List.getElem_cons_zero, List.setIfInBounds_toArray, List.set_cons_zero, List.set_cons_succ]
      refine wpAnyH_take (i := 4) (v := ?_) rfl (by kernel_rfl) (by kernel_rfl) (by kernel_rfl) (fun _ _ _ h => h) (Or.inl ⟨by kernel_rfl, ?_⟩) (by assumption) ?_
      rotate_left
      · (intro wx hSw; (try dsimp only at hSw); go_simp; try (with_reducible rfl))
      try simp only [Act.put, List.getElem_toArray, List.getElem_cons_succ, List.getElem_cons_zero, List.setIfInBounds_toArray, List.set_cons_zero, List.set_cons_succ]
      refine wpAnyH_take (i := 5) (v := ?_) rfl (by kernel_rfl) (by kernel_rfl) (by kernel_rfl) (fun _ _ _ h => h) (Or.inl ⟨by kernel_rfl, ?_⟩) (by assumption) ?_
      rotate_left
      · (intro wx hSw; (try dsimp only at hSw); go_simp; try (with_reducible rfl))
      try simp only [Act.put, List.getElem_toArray, List.getElem_cons_succ, List.getElem_cons_zero, List.setIfInBounds_toArray, List.set_cons_zero, List.set_cons_succ]
      refine wpAnyH_take (i := 6) (v := ?_) rfl (by kernel_rfl) (by kernel_rfl) (by kernel_rfl) (fun _ _ _ h => h) (Or.inl ⟨by kernel_rfl, ?_⟩) (by assumption) ?_
      rotate_left
      · (intro wx hSw; (try dsimp only at hSw); go_simp; try (with_reducible rfl))
      try simp only [Act.put, List.getElem_toArray, List.getElem_cons_succ, List.getElem_cons_zero, List.setIfInBounds_toArray, List.set_cons_zero, List.set_cons_succ]
      refine wpAnyH_take (i := 7) (v := ?_) rfl (by kernel_rfl) (by kernel_rfl) (by kernel_rfl) (fun _ _ _ h => h) (Or.inl ⟨by kernel_rfl, ?_⟩) (by assumption) ?_
      rotate_left
      · (intro wx hSw; (try dsimp only at hSw); go_simp; try (with_reducible rfl))
      try simp only [Act.put, List.getElem_toArray, List.getElem_cons_succ, List.getElem_cons_zero, List.setIfInBounds_toArray, List.set_cons_zero, List.set_cons_succ]
      refine wpAnyH_ready (rs := [3]) (by kernel_rfl) (by simp) ?_
      refine AllReadyH.cons rfl (fun K hK => ?_) AllReadyH.nil
      go_simp
      (go_at_call 78; refine (without_any A n c L HN.out a _ (by omega) (K1.out.bl (X2.out.drew_))).mono ?_; rintro e w3 ⟨v3, rfl, hv3, hb3⟩; obtain ⟨A3, c3, rfl, hc3, ha3, -⟩ := own_shapeF hv3; rw [← HM.out]; have F3 := Lib.hid ha3; have s3 := hb3.size; clear hv3 ha3)
      try (go_wp2_with fail)
      refine hK.out _ _ ?_ (fun hHeld => ?_)
      · (first | exact HSH.out _ (Bl.drew_ (Bl.refl _)) | exact HSH.out _ ((Bl.drew_ (Bl.refl _)).trans_ hb3) | exact HSH.out _ (((Bl.drew_ (Bl.refl _)).trans_ hb3).trans_ hb4))
      clear hK K
      try simp only [Act.put, List.getElem_toArray, List.getElem_cons_succ, List.getElem_cons_zero, List.setIfInBounds_toArray, List.set_cons_zero, List.set_cons_succ]
      refine wpAnyH_ready (rs := [8]) (by kernel_rfl) (by simp) ?_
      refine AllReadyH.cons rfl (fun K hK => ?_) AllReadyH.nil
      go_simp
      (go_at_call 77; refine (put_any A3 m c3 (cutL L a) HM.out b x _ (by omega) SC.out F3.out).mono ?_; rintro e w4 ⟨v4, rfl, hv4, hb4⟩; have V4 := Lib.hid hv4; clear hv4)
      try (go_wp2_with fail)
      refine hK.out _ _ ?_ (fun hHeld => ?_)
      · (first | exact HSH.out _ (Bl.drew_ (Bl.refl _)) | exact HSH.out _ ((Bl.drew_ (Bl.refl _)).trans_ hb3) | exact HSH.out _ (((Bl.drew_ (Bl.refl _)).trans_ hb3).trans_ hb4))
      clear hK K
      try simp only [Act.put, List.getElem_toArray, List.getElem_cons_succ, List.getElem_cons_zero, List.setIfInBounds_toArray, List.set_cons_zero, List.set_cons_succ]
      refine wpAnyH_take (i := 9) (v := ?_) rfl (by kernel_rfl) (by kernel_rfl) (by kernel_rfl) (fun _ _ _ h => h) (Or.inl ⟨by kernel_rfl, ?_⟩) (by assumption) ?_
      rotate_left
      · (intro wx hSw; (try dsimp only at hSw); go_simp; try (with_reducible rfl))
      try simp only [Act.put, List.getElem_toArray, List.getElem_cons_succ, List.getElem_cons_zero, List.setIfInBounds_toArray, List.set_cons_zero, List.set_cons_succ]
      refine wpAnyH_done (by kernel_rfl) ?_ _
      obtain ⟨hbx, -⟩ := hHeld
      go_wp2
      go_ret
      refine ⟨_, rfl, by rw [HD.out]; exact V4.out.low (by simp at s3; omega), X2.out.trans_ hbx⟩
    | false =>
      have HD := Lib.hid (show doL L ⟨2, a, b, d⟩ = L from by unfold doL; rw [if_neg (show ¬ (2 : Int) = 1 from by decide), if_neg (by rw [hh]; simp)])
      have HH := Lib.hid hh
      clear hh
      go_enter Try.func41, Try.ntmps41
      go_wp2_with fail
      refine (file2_any a b _).mono ?_
      rintro e w1 ⟨rfl, hb1⟩
      have B1 := Lib.hid hb1
      clear hb1
      go_wp2_with fail
      refine (dataOf_any a A n c L HN.out _ (by omega) HS.out (K1.out.bl B1.out)).mono ?_
      rintro e w2 ⟨rfl, hb2⟩
      have B2 := Lib.hid (B1.out.trans_ hb2)
      obtain ⟨x, hx⟩ : ∃ x, x = dataL L a := ⟨_, rfl⟩
      rw [← hx, HH.out]
      have s2 := B2.out.size
      clear hb2 hx hdl
      go_wp2_with fail
      refine (cloneF_any A n c L HN.out _ (by omega) (K1.out.bl (B2.out.alloc_ _))).mono ?_
      rintro e w3 ⟨v, rfl, hv, hb3⟩
      have V := Lib.hid hv
      have B3 := Lib.hid ((B2.out.alloc_ _).trans_ hb3)
      clear hv hb3
      go_wp2
      go_ret
      exact ⟨_, rfl, by rw [HD.out]; exact V.out.low (by simp; omega), B3.out⟩
  · rw [opV3]
    clear hf
    have t1 := ta31
    have t2 := ta32
    have t3 := ta33
    have HD := Lib.hid (show doL L ⟨3, a, b, d⟩ = cutL L a from by
      unfold doL
      rw [if_neg (show ¬ (3 : Int) = 1 from by decide)]
      cases hh : hasL L a with
      | true => rw [if_pos rfl, if_neg (show ¬ (3 : Int) = 2 from by decide)]
      | false =>
        rw [if_neg (by simp)]
        refine (cut_none fun j hj => ?_).symm
        cases e : sameB L[j].1 a
        · rfl
        · have := has_of_at hj e
          rw [hh] at this
          exact absurd this (by simp))
    go_enter Try.func41, Try.ntmps41
    go_wp2_with fail
    refine (file3_any a _).mono ?_
    rintro e w1 ⟨rfl, hb1⟩
    have B1 := Lib.hid hb1
    clear hb1
    go_wp2_with fail
    refine (dataOf_any a A n c L HN.out _ (by omega) HS.out (K1.out.bl B1.out)).mono ?_
    rintro e w2 ⟨rfl, hb2⟩
    have B2 := Lib.hid (B1.out.trans_ hb2)
    obtain ⟨x, hx⟩ : ∃ x, x = dataL L a := ⟨_, rfl⟩
    rw [← hx]
    obtain ⟨y, hy⟩ : ∃ y, y = hasL L a := ⟨_, rfl⟩
    rw [← hy]
    have s2 := B2.out.size
    clear hb2 hx hdl hy
    go_wp2_with fail
    refine (without_any A n c L HN.out a _ (by omega) (K1.out.bl (B2.out.alloc_ _))).mono ?_
    rintro e w3 ⟨v, rfl, hv, hb3⟩
    have V := Lib.hid hv
    have B3 := Lib.hid ((B2.out.alloc_ _).trans_ hb3)
    clear hv hb3
    go_wp2
    go_ret
    exact ⟨_, rfl, by rw [HD.out]; exact V.out.low (by simp; omega), B3.out⟩

end Go.Proofs.Ytgfmgmcpfefmkaa
