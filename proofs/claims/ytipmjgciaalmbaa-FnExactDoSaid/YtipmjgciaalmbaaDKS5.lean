/-
  What is proved here: the document's way of doing an op to files. No conditions beyond those that each theorem states.
-/
import Derived.Test.YtipmjgciaalmbaaDKS4
set_option linter.unusedSimpArgs false
set_option linter.unusedVariables false
namespace Go.Proofs.Ytipmjgciaalmbaa
open Go.RowKit

theorem empty_app (b : ByteArray) : (⟨#[]⟩ : ByteArray) ++ b = b := by
  apply ByteArray.ext
  simp [ByteArray.data_append]
theorem box4 {w wx : World} {a b c d : Value} {t : TypeId} (h : Bl (w.alloc (.cells #[a, b, c, d] t)) wx) : wx.cell? ⟨w.heap.size, 0, none⟩ = some a ∧ wx.cell? ⟨w.heap.size, 1, none⟩ = some b ∧ wx.cell? ⟨w.heap.size, 2, none⟩ = some c ∧ wx.cell? ⟨w.heap.size, 3, none⟩ = some d := by
  have hc := (bcell h).1
  exact ⟨by rw [hc _ _ (by simp)]; simp [go_sem], by rw [hc _ _ (by simp)]; simp [go_sem], by rw [hc _ _ (by simp)]; simp [go_sem], by rw [hc _ _ (by simp)]; simp [go_sem]⟩
theorem data_le {L : List Fl} (n : ByteArray) : (dataL L n).size ≤ sumL L := by have := data_size L n; omega

/-- Files behind an op, in a list of their own; whether it finds its file. -/
def DidS (L : List Fl) (o : Dp) (w : World) (e : Ending) (w' : World) : Prop := ∃ v, e = .returned (.tuple #[v, .bool (foundB L o)]) ∧ OwnF w' w.heap.size v (doL L o) ∧ Bl w w'

set_option maxRecDepth 100000 in
set_option maxHeartbeats 4000000 in
theorem l15Do_any (A : Option Addr) (n c : Nat) (L : List Fl) (hn : n = L.length) (o : Dp) (w : World) (hm : n ≤ 400000) (hsm : sumL L ≤ 4194304) (hos : o.data.size ≤ 4194304) (hs : SortedF L) (H1 : FilesAt w w.heap.size A L) :
    Calls Try.prog 48 #[.slice A n c, .agg #[.int .i64 o.kind, .string o.name, .string o.to, .string o.data]] w (DidS L o w) := by
  obtain ⟨q, a, b, d⟩ := o
  simp only at hos ⊢
  have K1 := Lib.hid H1
  have HN := Lib.hid hn
  have HS := Lib.hid hs
  have hdl := data_le (L := L) a
  clear H1 hn hs
  by_cases h1 : q = 1
  · subst h1
    have HD := Lib.hid (show doL L ⟨1, a, b, d⟩ = putL L a (dataL L a ++ d) from by unfold doL; rw [if_pos rfl])
    have HF := Lib.hid (show foundB L ⟨1, a, b, d⟩ = true from rfl)
    go_enter Try.func48, Try.ntmps48
    go_wp2_with fail
    refine (l15At_any A n c L HN.out a _ (by omega) (K1.out.bl (by repeat' (first | exact Bl.refl _ | with_reducible assumption | with_reducible refine Bl.drew_ ?_ | with_reducible refine Bl.drewN_ ?_ _ | with_reducible refine Bl.alloc_ ?_ _ | with_reducible refine Bl.trans_ ?_ (by assumption) | with_reducible refine Bl.trans_ ?_ (And.left (by assumption)))))).mono ?_
    rintro e w1 ⟨⟨i, rfl, hi⟩, hb1⟩
    obtain ⟨q0, q1, q2, q3⟩ := box4 hb1
    have B1 := Lib.hid ((Bl.alloc_ (Bl.refl w) _).trans_ hb1)
    rcases hi with ⟨k, rfl, hk, hkn, hkd, hh⟩ | ⟨rfl, hh⟩
    · obtain ⟨g1, o1, rfl, hg1, hc1⟩ := K1.out.cell (by omega)
      obtain ⟨-, p2⟩ := hc1 k hk
      rw [← (bcell B1.out).1 _ _ hg1, ← hkd] at p2
      have hkn' : (k : Int) < (n : Int) := by have := HN.out; omega
      have i0 : (0 : Int) ≤ (k : Int) := by omega
      have FL := Lib.hid (K1.out.bl B1.out)
      obtain ⟨x, hx⟩ : ∃ x, x = dataL L a := ⟨_, rfl⟩
      rw [← hx] at p2 HD hdl
      have hsz : ((x.size + d.size : Nat) : Int) ≤ IntKind.i64.max := by rw [show IntKind.i64.max = 9223372036854775807 from by decide]; omega
      clear hc1 hkd hkn hb1 hx
      go_wp2_with fail
      refine (l15Put_any _ n c L HN.out a (x ++ d) _ (by omega) HS.out FL.out).mono ?_
      rintro e w2 ⟨v, rfl, hv, hb2⟩
      have V := Lib.hid hv
      have B2 := Lib.hid (B1.out.trans_ hb2)
      have s1 := B1.out.size
      clear hv hb2
      go_wp2
      refine bodyPost_ret (v := .tuple #[v, .bool true]) (by simp [results, Try.results48, go_sem]) rfl ⟨v, by rw [HF.out], by rw [HD.out]; exact V.out.low s1, B2.out⟩
    · have FL := Lib.hid (K1.out.bl B1.out)
      rw [data_none hh, empty_app] at HD
      go_wp2_with fail
      refine (l15Put_any _ n c L HN.out a d _ (by omega) HS.out FL.out).mono ?_
      rintro e w2 ⟨v, rfl, hv, hb2⟩
      have V := Lib.hid hv
      have B2 := Lib.hid (B1.out.trans_ hb2)
      have s1 := B1.out.size
      clear hv hb2
      go_wp2
      refine bodyPost_ret (v := .tuple #[v, .bool true]) (by simp [results, Try.results48, go_sem]) rfl ⟨v, by rw [HF.out], by rw [HD.out]; exact V.out.low s1, B2.out⟩
  · have HF := Lib.hid (show foundB L ⟨q, a, b, d⟩ = hasL L a from by unfold foundB; simp [h1])
    have HD := Lib.hid (show doL L ⟨q, a, b, d⟩ = (if hasL L a then (if q = 2 then putL (cutL L a) b (dataL L a) else cutL L a) else L) from by unfold doL; rw [if_neg h1])
    go_enter Try.func48, Try.ntmps48
    go_wp2_with fail
    refine (l15At_any A n c L HN.out a _ (by omega) (K1.out.bl (by repeat' (first | exact Bl.refl _ | with_reducible assumption | with_reducible refine Bl.drew_ ?_ | with_reducible refine Bl.drewN_ ?_ _ | with_reducible refine Bl.alloc_ ?_ _ | with_reducible refine Bl.trans_ ?_ (by assumption) | with_reducible refine Bl.trans_ ?_ (And.left (by assumption)))))).mono ?_
    rintro e w1 ⟨⟨i, rfl, hi⟩, hb1⟩
    obtain ⟨q0, q1, q2, q3⟩ := box4 hb1
    have B1 := Lib.hid ((Bl.alloc_ (Bl.refl w) _).trans_ hb1)
    rcases hi with ⟨k, rfl, hk, hkn, hkd, hh⟩ | ⟨rfl, hh⟩
    · rw [hh] at HF
      rw [hh, if_pos rfl] at HD
      have hkn' : (k : Int) < (n : Int) := by have := HN.out; omega
      have i0 : (0 : Int) ≤ (k : Int) := by omega
      have FL := Lib.hid (K1.out.bl B1.out)
      have s1 := B1.out.size
      go_wp2_with fail
      refine (l15Cut_any A n c L HN.out a _ (by omega) FL.out).mono ?_
      rintro e w2 ⟨v, rfl, hv, hb2⟩
      have V := Lib.hid hv
      have B2 := Lib.hid (B1.out.trans_ hb2)
      obtain ⟨q0, q1, q2, q3⟩ := box4 (hb1.trans_ hb2)
      clear hv
      by_cases h2 : q = 2
      · subst h2
        rw [if_pos rfl] at HD
        obtain ⟨Av, cv, rfl, hcv, hav, -⟩ := own_shapeF V.out
        have AV := Lib.hid hav
        have hlc := cut_len L a
        obtain ⟨g1, o1, rfl, hg1, hc1⟩ := K1.out.cell (by omega)
        obtain ⟨-, p2⟩ := hc1 k hk
        rw [← hkd] at p2
        obtain ⟨x, hx⟩ : ∃ x, x = dataL L a := ⟨_, rfl⟩
        rw [← hx] at p2 HD
        obtain ⟨m, hm'⟩ : ∃ m, m = (cutL L a).length := ⟨_, rfl⟩
        rw [← hm'] at hlc
        have HM := Lib.hid hm'
        have hmb : m ≤ 400000 := by have := HN.out; omega
        have HSH := Lib.hid (show ∀ wx, Bl w2 wx → Bl w2 wx ∧ wx.cell? ⟨w.heap.size, 2, none⟩ = some (.string b) ∧ wx.cell? ⟨g1, o1 + k * 2 + 1, none⟩ = some (.string x) from fun wx hb => ⟨hb, (box4 ((hb1.trans_ hb2).trans_ hb)).2.2.1, ((bcell (B2.out.trans_ hb)).1 _ _ hg1).trans p2⟩)
        have SC := Lib.hid (cut_sorted HS.out a)
        rw [← HM.out]
        clear hc1 hkd hkn hav hx hm' p2
        go_wp2_with fail
        refine wp_region_held_drew (S := fun wx => Bl w2 wx ∧ wx.cell? ⟨w.heap.size, 2, none⟩ = some (.string b) ∧ wx.cell? ⟨g1, o1 + k * 2 + 1, none⟩ = some (.string x)) (by kernel_rfl) ?_ (fun hHeld => ?_)
        · (first | exact HSH.out _ (by repeat' (first | exact Bl.refl _ | with_reducible assumption | with_reducible refine Bl.drew_ ?_ | with_reducible refine Bl.drewN_ ?_ _ | with_reducible refine Bl.alloc_ ?_ _ | with_reducible refine Bl.trans_ ?_ (by assumption) | with_reducible refine Bl.trans_ ?_ (And.left (by assumption)))) | exact HSH.out _ (Bl.drew_ (Bl.refl _)) | exact HSH.out _ ((Bl.drew_ (Bl.refl _)).trans_ hb3))
        refine wpAnyH_take (i := 0) (v := ?_) rfl (by kernel_rfl) (by kernel_rfl) (by kernel_rfl) (fun _ _ _ h => h) (Or.inl ⟨by kernel_rfl, ?_⟩) (by assumption) ?_
        rotate_left
        · (intro wx hSw; (try dsimp only at hSw); go_simp; try (with_reducible rfl))
        try simp only [Act.put, List.getElem_toArray, List.getElem_cons_succ, List.getElem_cons_zero, List.setIfInBounds_toArray, List.set_cons_zero, List.set_cons_succ]
        refine wpAnyH_take (i := 1) (v := ?_) rfl (by kernel_rfl) (by kernel_rfl) (by kernel_rfl) (fun _ _ _ h => h) (Or.inl ⟨by kernel_rfl, ?_⟩) (by assumption) ?_
        rotate_left
        · (intro wx hSw; (try dsimp only at hSw); go_simp; try (with_reducible rfl))
        try simp only [Act.put, List.getElem_toArray, List.getElem_cons_succ, List.getElem_cons_zero, List.setIfInBounds_toArray, List.set_cons_zero, List.set_cons_succ]
        refine wpAnyH_take (i := 2) (v := ?_) rfl (by kernel_rfl) (by kernel_rfl) (by kernel_rfl) (fun _ _ _ h => h) (Or.inl ⟨by kernel_rfl, ?_⟩) (by assumption) ?_
        rotate_left
        · (intro wx hSw; (try dsimp only at hSw); go_simp; try (with_reducible rfl))
        try simp only [Act.put, List.getElem_toArray, List.getElem_cons_succ, List.getElem_cons_zero, List.setIfInBounds_toArray, List.set_cons_zero, List.set_cons_succ]
        refine wpAnyH_take (i := 3) (v := ?_) rfl (by kernel_rfl) (by kernel_rfl) (by kernel_rfl) (fun _ _ _ h => h) (Or.inl ⟨by kernel_rfl, ?_⟩) (by assumption) ?_
        rotate_left
        · (intro wx hSw; (try dsimp only at hSw); go_simp; try (with_reducible rfl))
        try simp only [Act.put, List.getElem_toArray, List.getElem_cons_succ, List.getElem_cons_zero, List.setIfInBounds_toArray, List.set_cons_zero, List.set_cons_succ]
        refine wpAnyH_take (i := 4) (v := ?_) rfl (by kernel_rfl) (by kernel_rfl) (by kernel_rfl) (fun _ _ _ h => h) (Or.inl ⟨by kernel_rfl, ?_⟩) (by assumption) ?_
        rotate_left
        · (intro wx hSw; (try dsimp only at hSw); go_simp; try (with_reducible rfl))
        try simp only [Act.put, List.getElem_toArray, List.getElem_cons_succ, List.getElem_cons_zero, List.setIfInBounds_toArray, List.set_cons_zero, List.set_cons_succ]
        refine wpAnyH_take (i := 5) (v := ?_) rfl (by kernel_rfl) (by kernel_rfl) (by kernel_rfl) (fun _ _ _ h => h) (Or.inl ⟨by kernel_rfl, ?_⟩) (by assumption) ?_
        rotate_left
        · (intro wx hSw; (try dsimp only at hSw); go_simp; try (with_reducible rfl))
        try simp only [Act.put, List.getElem_toArray, List.getElem_cons_succ, List.getElem_cons_zero, List.setIfInBounds_toArray, List.set_cons_zero, List.set_cons_succ]
        refine wpAnyH_take (i := 6) (v := ?_) rfl (by kernel_rfl) (by kernel_rfl) (by kernel_rfl) (fun _ _ _ h => h) (Or.inl ⟨by kernel_rfl, ?_⟩) (by assumption) ?_
        rotate_left
        · (intro wx hSw; (try dsimp only at hSw); go_simp; try (with_reducible rfl))
        try simp only [Act.put, List.getElem_toArray, List.getElem_cons_succ, List.getElem_cons_zero, List.setIfInBounds_toArray, List.set_cons_zero, List.set_cons_succ]
        refine wpAnyH_take (i := 7) (v := ?_) rfl (by kernel_rfl) (by kernel_rfl) (by kernel_rfl) (fun _ _ _ h => h) (Or.inl ⟨by kernel_rfl, ?_⟩) (by assumption) ?_
        rotate_left
        · (intro wx hSw; (try dsimp only at hSw); go_simp; try (with_reducible rfl))
        try simp only [Act.put, List.getElem_toArray, List.getElem_cons_succ, List.getElem_cons_zero, List.setIfInBounds_toArray, List.set_cons_zero, List.set_cons_succ]
        refine wpAnyH_ready (rs := [8]) (by kernel_rfl) (by simp) ?_
        refine AllReadyH.cons rfl (fun K hK => ?_) AllReadyH.nil
        go_simp
        (go_at_call 94; refine (l15Put_any _ m cv (cutL L a) HM.out b x _ (by omega) SC.out (AV.out.bl (Bl.drew_ (Bl.refl _)))).mono ?_; rintro e w3 ⟨v3, rfl, hv3, hb3⟩; have V3 := Lib.hid hv3; clear hv3)
        try (go_wp2_with fail)
        refine hK.out _ _ ?_ (fun hHeld => ?_)
        · (first | exact HSH.out _ (by repeat' (first | exact Bl.refl _ | with_reducible assumption | with_reducible refine Bl.drew_ ?_ | with_reducible refine Bl.drewN_ ?_ _ | with_reducible refine Bl.alloc_ ?_ _ | with_reducible refine Bl.trans_ ?_ (by assumption) | with_reducible refine Bl.trans_ ?_ (And.left (by assumption)))) | exact HSH.out _ (Bl.drew_ (Bl.refl _)) | exact HSH.out _ ((Bl.drew_ (Bl.refl _)).trans_ hb3))
        clear hK K
        try simp only [Act.put, List.getElem_toArray, List.getElem_cons_succ, List.getElem_cons_zero, List.setIfInBounds_toArray, List.set_cons_zero, List.set_cons_succ]
        refine wpAnyH_take (i := 9) (v := ?_) rfl (by kernel_rfl) (by kernel_rfl) (by kernel_rfl) (fun _ _ _ h => h) (Or.inl ⟨by kernel_rfl, ?_⟩) (by assumption) ?_
        rotate_left
        · (intro wx hSw; (try dsimp only at hSw); go_simp; try (with_reducible rfl))
        try simp only [Act.put, List.getElem_toArray, List.getElem_cons_succ, List.getElem_cons_zero, List.setIfInBounds_toArray, List.set_cons_zero, List.set_cons_succ]
        refine wpAnyH_done (by kernel_rfl) ?_ _
        obtain ⟨hbx, -⟩ := hHeld
        go_wp2
        refine bodyPost_ret (v := .tuple #[v3, .bool true]) (by simp [results, Try.results48, go_sem]) rfl ⟨v3, by rw [HF.out], by rw [HD.out]; exact V3.out.low (by have := B2.out.size; simpa using this), B2.out.trans_ hbx⟩
      · rw [if_neg h2] at HD
        go_wp2
        refine bodyPost_ret (v := .tuple #[v, .bool true]) (by simp [results, Try.results48, go_sem]) rfl ⟨v, by rw [HF.out], by rw [HD.out]; exact V.out.low s1, B2.out⟩
    · rw [hh] at HF
      rw [hh, if_neg (by simp)] at HD
      have FL := Lib.hid (K1.out.bl B1.out)
      have s1 := B1.out.size
      go_wp2_with (at_builtin; refine wp_copy_File rfl (.tmp 34) (.tmp 35) rfl (w1.alloc (.cells #[] 89)) w.heap.size _ A n c L rfl rfl (World.ownsRow_made (base := w.heap.size) (e := 89) (size := 2) w1 #[] 0 s1 (by unfold maxLen; omega) rfl) (by simp; omega) HN.out (by omega) (FL.out.bl (Bl.alloc_ (Bl.refl _) _)) ?_)
      intro v' w' hv' hb'
      have V := Lib.hid hv'
      have B2 := Lib.hid (hb' w (B1.out.alloc_ _) (Nat.le_refl _))
      clear hv' hb'
      go_wp2
      refine bodyPost_ret (v := .tuple #[v', .bool false]) (by simp [results, Try.results48, go_sem]) rfl ⟨v', by rw [HF.out], by rw [HD.out]; exact V.out, B2.out⟩

end Go.Proofs.Ytipmjgciaalmbaa
