/-
  What is proved here: the document's way of doing an op to files; the document's question whether a disk is right. No conditions beyond those that each theorem states.
-/
import Derived.Test.YtgfmgmcpfefmkaaV7DKS4
set_option linter.unusedSimpArgs false
set_option linter.unusedVariables false
namespace Go.Proofs.Ytgfmgmcpfefmkaa
open Go.RowKit

theorem empty_app (b : ByteArray) : (⟨#[]⟩ : ByteArray) ++ b = b := by
  apply ByteArray.ext
  simp [ByteArray.data_append]
theorem box4 {w wx : World} {a b c d : Value} {t : TypeId} (h : Bl (w.alloc (.cells #[a, b, c, d] t)) wx) : wx.cell? ⟨w.heap.size, 0, none⟩ = some a ∧ wx.cell? ⟨w.heap.size, 1, none⟩ = some b ∧ wx.cell? ⟨w.heap.size, 2, none⟩ = some c ∧ wx.cell? ⟨w.heap.size, 3, none⟩ = some d := by
  have hc := (bcell h).1
  exact ⟨by rw [hc _ _ (by simp)]; simp [go_sem], by rw [hc _ _ (by simp)]; simp [go_sem], by rw [hc _ _ (by simp)]; simp [go_sem], by rw [hc _ _ (by simp)]; simp [go_sem]⟩
theorem data_le {L : List Fl} (n : ByteArray) : (dataL L n).size ≤ sumL L := by have := data_size L n; omega

/-- Files behind an op, in a list of their own; whether it finds its file. -/
def DidS (L : List Fl) (o : Dp) (w : World) (e : Ending) (w' : World) : Prop := ∃ v, e = .returned (.tuple #[v, .bool (foundB L o)]) ∧ OwnF w' w.heap.size v (doL L o) ∧ Bl w w'

set_option maxRecDepth 100000 in
set_option maxHeartbeats 4000000 in
theorem l15Do_any (A : Option Addr) (n c : Nat) (L : List Fl) (hn : n = L.length) (o : Dp) (w : World) (hm : n ≤ 400000) (hsm : sumL L ≤ 4194304) (hos : o.data.size ≤ 4194304) (hs : SortedF L) (H1 : FilesAt w w.heap.size A L) :
    Calls Try.prog 34 #[.slice A n c, .agg #[.int .i64 o.kind, .string o.name, .string o.to, .string o.data]] w (DidS L o w) := by
  obtain ⟨q, a, b, d⟩ := o
  simp only at hos ⊢
  have K1 := Lib.hid H1
  have HN := Lib.hid hn
  have HS := Lib.hid hs
  have hdl := data_le (L := L) a
  clear H1 hn hs
  by_cases h1 : q = 1
  · subst h1
    have HD := Lib.hid (show doL L ⟨1, a, b, d⟩ = putL L a (dataL L a ++ d) from by unfold doL; rw [if_pos rfl])
    have HF := Lib.hid (show foundB L ⟨1, a, b, d⟩ = true from rfl)
    go_enter Try.func34, Try.ntmps34
    go_wp2_with fail
    refine (l15At_any A n c L HN.out a _ (by omega) (K1.out.bl (by repeat' (first | exact Bl.refl _ | with_reducible assumption | with_reducible refine Bl.drew_ ?_ | with_reducible refine Bl.drewN_ ?_ _ | with_reducible refine Bl.alloc_ ?_ _ | with_reducible refine Bl.trans_ ?_ (by assumption) | with_reducible refine Bl.trans_ ?_ (And.left (by assumption)))))).mono ?_
    rintro e w1 ⟨⟨i, rfl, hi⟩, hb1⟩
    obtain ⟨q0, q1, q2, q3⟩ := box4 hb1
    have B1 := Lib.hid ((Bl.alloc_ (Bl.refl w) _).trans_ hb1)
    rcases hi with ⟨k, rfl, hk, hkn, hkd, hh⟩ | ⟨rfl, hh⟩
    · obtain ⟨g1, o1, rfl, hg1, hc1⟩ := K1.out.cell (by omega)
      obtain ⟨-, p2⟩ := hc1 k hk
      rw [← (bcell B1.out).1 _ _ hg1, ← hkd] at p2
      have hkn' : (k : Int) < (n : Int) := by have := HN.out; omega
      have i0 : (0 : Int) ≤ (k : Int) := by omega
      have FL := Lib.hid (K1.out.bl B1.out)
      obtain ⟨x, hx⟩ : ∃ x, x = dataL L a := ⟨_, rfl⟩
      rw [← hx] at p2 HD hdl
      have hsz : ((x.size + d.size : Nat) : Int) ≤ IntKind.i64.max := by rw [show IntKind.i64.max = 9223372036854775807 from by decide]; omega
      clear hc1 hkd hkn hb1 hx
      go_wp2_with fail
      refine (l15Put_any _ n c L HN.out a (x ++ d) _ (by omega) HS.out FL.out).mono ?_
      rintro e w2 ⟨v, rfl, hv, hb2⟩
      have V := Lib.hid hv
      have B2 := Lib.hid (B1.out.trans_ hb2)
      have s1 := B1.out.size
      clear hv hb2
      go_wp2
      refine bodyPost_ret (v := .tuple #[v, .bool true]) (by simp [results, Try.results34, go_sem]) rfl ⟨v, by rw [HF.out], by rw [HD.out]; exact V.out.low s1, B2.out⟩
    · have FL := Lib.hid (K1.out.bl B1.out)
      rw [data_none hh, empty_app] at HD
      go_wp2_with fail
      refine (l15Put_any _ n c L HN.out a d _ (by omega) HS.out FL.out).mono ?_
      rintro e w2 ⟨v, rfl, hv, hb2⟩
      have V := Lib.hid hv
      have B2 := Lib.hid (B1.out.trans_ hb2)
      have s1 := B1.out.size
      clear hv hb2
      go_wp2
      refine bodyPost_ret (v := .tuple #[v, .bool true]) (by simp [results, Try.results34, go_sem]) rfl ⟨v, by rw [HF.out], by rw [HD.out]; exact V.out.low s1, B2.out⟩
  · have HF := Lib.hid (show foundB L ⟨q, a, b, d⟩ = hasL L a from by unfold foundB; simp [h1])
    have HD := Lib.hid (show doL L ⟨q, a, b, d⟩ = (if hasL L a then (if q = 2 then putL (cutL L a) b (dataL L a) else cutL L a) else L) from by unfold doL; rw [if_neg h1])
    go_enter Try.func34, Try.ntmps34
    go_wp2_with fail
    refine (l15At_any A n c L HN.out a _ (by omega) (K1.out.bl (by repeat' (first | exact Bl.refl _ | with_reducible assumption | with_reducible refine Bl.drew_ ?_ | with_reducible refine Bl.drewN_ ?_ _ | with_reducible refine Bl.alloc_ ?_ _ | with_reducible refine Bl.trans_ ?_ (by assumption) | with_reducible refine Bl.trans_ ?_ (And.left (by assumption)))))).mono ?_
    rintro e w1 ⟨⟨i, rfl, hi⟩, hb1⟩
    obtain ⟨q0, q1, q2, q3⟩ := box4 hb1
    have B1 := Lib.hid ((Bl.alloc_ (Bl.refl w) _).trans_ hb1)
    rcases hi with ⟨k, rfl, hk, hkn, hkd, hh⟩ | ⟨rfl, hh⟩
    · rw [hh] at HF
      rw [hh, if_pos rfl] at HD
      have hkn' : (k : Int) < (n : Int) := by have := HN.out; omega
      have i0 : (0 : Int) ≤ (k : Int) := by omega
      have FL := Lib.hid (K1.out.bl B1.out)
      have s1 := B1.out.size
      go_wp2_with fail
      refine (l15Cut_any A n c L HN.out a _ (by omega) FL.out).mono ?_
      rintro e w2 ⟨v, rfl, hv, hb2⟩
      have V := Lib.hid hv
      have B2 := Lib.hid (B1.out.trans_ hb2)
      obtain ⟨q0, q1, q2, q3⟩ := box4 (hb1.trans_ hb2)
      clear hv
      by_cases h2 : q = 2
      · subst h2
        rw [if_pos rfl] at HD
        obtain ⟨Av, cv, rfl, hcv, hav, -⟩ := own_shapeF V.out
        have AV := Lib.hid hav
        have hlc := cut_len L a
        obtain ⟨g1, o1, rfl, hg1, hc1⟩ := K1.out.cell (by omega)
        obtain ⟨-, p2⟩ := hc1 k hk
        rw [← hkd] at p2
        obtain ⟨x, hx⟩ : ∃ x, x = dataL L a := ⟨_, rfl⟩
        rw [← hx] at p2 HD
        obtain ⟨m, hm'⟩ : ∃ m, m = (cutL L a).length := ⟨_, rfl⟩
        rw [← hm'] at hlc
        have HM := Lib.hid hm'
        have hmb : m ≤ 400000 := by have := HN.out; omega
        have HSH := Lib.hid (show ∀ wx, Bl w2 wx → Bl w2 wx ∧ wx.cell? ⟨w.heap.size, 2, none⟩ = some (.string b) ∧ wx.cell? ⟨g1, o1 + k * 2 + 1, none⟩ = some (.string x) from fun wx hb => ⟨hb, (box4 ((hb1.trans_ hb2).trans_ hb)).2.2.1, ((bcell (B2.out.trans_ hb)).1 _ _ hg1).trans p2⟩)
        have SC := Lib.hid (cut_sorted HS.out a)
        rw [← HM.out]
        clear hc1 hkd hkn hav hx hm' p2
        go_wp2_with fail
        refine wp_region_held_drew (S := fun wx => Bl w2 wx ∧ wx.cell? ⟨w.heap.size, 2, none⟩ = some (.string b) ∧ wx.cell? ⟨g1, o1 + k * 2 + 1, none⟩ = some (.string x)) (by kernel_rfl) ?_ (fun hHeld => ?_)
        · (first | exact HSH.out _ (by repeat' (first | exact Bl.refl _ | with_reducible assumption | with_reducible refine Bl.drew_ ?_ | with_reducible refine Bl.drewN_ ?_ _ | with_reducible refine Bl.alloc_ ?_ _ | with_reducible refine Bl.trans_ ?_ (by assumption) | with_reducible refine Bl.trans_ ?_ (And.left (by assumption)))) | exact HSH.out _ (Bl.drew_ (Bl.refl _)) | exact HSH.out _ ((Bl.drew_ (Bl.refl _)).trans_ hb3))
        refine wpAnyH_take (i := 0) (v := ?_) rfl (by kernel_rfl) (by kernel_rfl) (by kernel_rfl) (fun _ _ _ h => h) (Or.inl ⟨by kernel_rfl, ?_⟩) (by assumption) ?_
        rotate_left
        · (intro wx hSw; (try dsimp only at hSw); go_simp; try (with_reducible rfl))
        try simp only [Act.put, List.getElem_toArray, List.getElem_cons_succ, List.getElem_cons_zero, List.setIfInBounds_toArray, List.set_cons_zero, List.set_cons_succ]
        refine wpAnyH_take (i := 1) (v := ?_) rfl (by kernel_rfl) (by kernel_rfl) (by kernel_rfl) (fun _ _ _ h => h) (Or.inl ⟨by kernel_rfl, ?_⟩) (by assumption) ?_
        rotate_left
        · (intro wx hSw; (try dsimp only at hSw); go_simp; try (with_reducible rfl))
        try simp only [Act.put, List.getElem_toArray, List.getElem_cons_succ, List.getElem_cons_zero, List.setIfInBounds_toArray, List.set_cons_zero, List.set_cons_succ]
        refine wpAnyH_take (i := 2) (v := ?_) rfl (by kernel_rfl) (by kernel_rfl) (by kernel_rfl) (fun _ _ _ h => h) (Or.inl ⟨by kernel_rfl, ?_⟩) (by assumption) ?_
        rotate_left
        · (intro wx hSw; (try dsimp only at hSw); go_simp; try (with_reducible rfl))
        try simp only [Act.put, List.getElem_toArray, List.getElem_cons_succ, List.getElem_cons_zero, List.setIfInBounds_toArray, List.set_cons_zero, List.set_cons_succ]
        refine wpAnyH_take (i := 3) (v := ?_) rfl (by kernel_rfl) (by kernel_rfl) (by kernel_rfl) (fun _ _ _ h => h) (Or.inl ⟨by kernel_rfl, ?_⟩) (by assumption) ?_
        rotate_left
        · (intro wx hSw; (try dsimp only at hSw); go_simp; try (with_reducible rfl))
        try simp only [Act.put, List.getElem_toArray, List.getElem_cons_succ, List.getElem_cons_zero, List.setIfInBounds_toArray, List.set_cons_zero, List.set_cons_succ]
        refine wpAnyH_take (i := 4) (v := ?_) rfl (by kernel_rfl) (by kernel_rfl) (by kernel_rfl) (fun _ _ _ h => h) (Or.inl ⟨by kernel_rfl, ?_⟩) (by assumption) ?_
        rotate_left
        · (intro wx hSw; (try dsimp only at hSw); go_simp; try (with_reducible rfl))
        try simp only [Act.put, List.getElem_toArray, List.getElem_cons_succ, List.getElem_cons_zero, List.setIfInBounds_toArray, List.set_cons_zero, List.set_cons_succ]
        refine wpAnyH_take (i := 5) (v := ?_) rfl (by kernel_rfl) (by kernel_rfl) (by kernel_rfl) (fun _ _ _ h => h) (Or.inl ⟨by kernel_rfl, ?_⟩) (by assumption) ?_
        rotate_left
        · (intro wx hSw; (try dsimp only at hSw); go_simp; try (with_reducible rfl))
        try simp only [Act.put, List.getElem_toArray, List.getElem_cons_succ, List.getElem_cons_zero, List.setIfInBounds_toArray, List.set_cons_zero, List.set_cons_succ]
        refine wpAnyH_take (i := 6) (v := ?_) rfl (by kernel_rfl) (by kernel_rfl) (by kernel_rfl) (fun _ _ _ h => h) (Or.inl ⟨by kernel_rfl, ?_⟩) (by assumption) ?_
        rotate_left
        · (intro wx hSw; (try dsimp only at hSw); go_simp; try (with_reducible rfl))
        try simp only [Act.put, List.getElem_toArray, List.getElem_cons_succ, List.getElem_cons_zero, List.setIfInBounds_toArray, List.set_cons_zero, List.set_cons_succ]
        refine wpAnyH_take (i := 7) (v := ?_) rfl (by kernel_rfl) (by kernel_rfl) (by kernel_rfl) (fun _ _ _ h => h) (Or.inl ⟨by kernel_rfl, ?_⟩) (by assumption) ?_
        rotate_left
        · (intro wx hSw; (try dsimp only at hSw); go_simp; try (with_reducible rfl))
        try simp only [Act.put, List.getElem_toArray, List.getElem_cons_succ, List.getElem_cons_zero, List.setIfInBounds_toArray, List.set_cons_zero, List.set_cons_succ]
        refine wpAnyH_ready (rs := [8]) (by kernel_rfl) (by simp) ?_
        refine AllReadyH.cons rfl (fun K hK => ?_) AllReadyH.nil
        go_simp
        (go_at_call 71; refine (l15Put_any _ m cv (cutL L a) HM.out b x _ (by omega) SC.out (AV.out.bl (Bl.drew_ (Bl.refl _)))).mono ?_; rintro e w3 ⟨v3, rfl, hv3, hb3⟩; have V3 := Lib.hid hv3; clear hv3)
        try (go_wp2_with fail)
        refine hK.out _ _ ?_ (fun hHeld => ?_)
        · (first | exact HSH.out _ (by repeat' (first | exact Bl.refl _ | with_reducible assumption | with_reducible refine Bl.drew_ ?_ | with_reducible refine Bl.drewN_ ?_ _ | with_reducible refine Bl.alloc_ ?_ _ | with_reducible refine Bl.trans_ ?_ (by assumption) | with_reducible refine Bl.trans_ ?_ (And.left (by assumption)))) | exact HSH.out _ (Bl.drew_ (Bl.refl _)) | exact HSH.out _ ((Bl.drew_ (Bl.refl _)).trans_ hb3))
        clear hK K
        try simp only [Act.put, List.getElem_toArray, List.getElem_cons_succ, List.getElem_cons_zero, List.setIfInBounds_toArray, List.set_cons_zero, List.set_cons_succ]
        refine wpAnyH_take (i := 9) (v := ?_) rfl (by kernel_rfl) (by kernel_rfl) (by kernel_rfl) (fun _ _ _ h => h) (Or.inl ⟨by kernel_rfl, ?_⟩) (by assumption) ?_
        rotate_left
        · (intro wx hSw; (try dsimp only at hSw); go_simp; try (with_reducible rfl))
        try simp only [Act.put, List.getElem_toArray, List.getElem_cons_succ, List.getElem_cons_zero, List.setIfInBounds_toArray, List.set_cons_zero, List.set_cons_succ]
        refine wpAnyH_done (by kernel_rfl) ?_ _
        obtain ⟨hbx, -⟩ := hHeld
        go_wp2
        refine bodyPost_ret (v := .tuple #[v3, .bool true]) (by simp [results, Try.results34, go_sem]) rfl ⟨v3, by rw [HF.out], by rw [HD.out]; exact V3.out.low (by have := B2.out.size; simpa using this), B2.out.trans_ hbx⟩
      · rw [if_neg h2] at HD
        go_wp2
        refine bodyPost_ret (v := .tuple #[v, .bool true]) (by simp [results, Try.results34, go_sem]) rfl ⟨v, by rw [HF.out], by rw [HD.out]; exact V.out.low s1, B2.out⟩
    · rw [hh] at HF
      rw [hh, if_neg (by simp)] at HD
      have FL := Lib.hid (K1.out.bl B1.out)
      have s1 := B1.out.size
      go_wp2_with (at_builtin; refine wp_copy_File rfl (.tmp 34) (.tmp 35) rfl (w1.alloc (.cells #[] 86)) w.heap.size _ A n c L rfl rfl (World.ownsRow_made (base := w.heap.size) (e := 86) (size := 2) w1 #[] 0 s1 (by unfold maxLen; omega) rfl) (by simp; omega) HN.out (by omega) (FL.out.bl (Bl.alloc_ (Bl.refl _) _)) ?_)
      intro v' w' hv' hb'
      have V := Lib.hid hv'
      have B2 := Lib.hid (hb' w (B1.out.alloc_ _) (Nat.le_refl _))
      clear hv' hb'
      go_wp2
      refine bodyPost_ret (v := .tuple #[v', .bool false]) (by simp [results, Try.results34, go_sem]) rfl ⟨v', by rw [HF.out], by rw [HD.out]; exact V.out, B2.out⟩

end Go.Proofs.Ytgfmgmcpfefmkaa

set_option linter.unusedSimpArgs false
set_option linter.unusedVariables false
namespace Go.Proofs.Ytgfmgmcpfefmkaa
open Go.RowKit

theorem files_parts {L : List Fl} (h : filesB L = true) : L.length ≤ 60 ∧ sumL L ≤ 200000 ∧ ordB L = true := by
  unfold filesB fitsB at h
  simp only [Bool.and_eq_true, decide_eq_true_eq] at h
  exact ⟨h.1.1, h.1.2, h.2⟩
theorem files_fits {L : List Fl} (h : ordB L = true) : filesB L = fitsB L := by unfold filesB; rw [h, Bool.and_true]
theorem good_drop {O : List Dp} {L : List Fl} {k : Nat} (hk : k < O.length) : goodB L (O.drop k) = (formB O[k] && foundB L O[k] && fitsB (doL L O[k]) && goodB (doL L O[k]) (O.drop (k + 1))) := by
  rw [List.drop_eq_getElem_cons hk]
  rfl
theorem all_drop {O : List Dp} {L : List Fl} {k : Nat} (hk : k < O.length) : doAll L (O.drop k) = doAll (doL L O[k]) (O.drop (k + 1)) := by
  rw [List.drop_eq_getElem_cons hk]
  rfl
/-- The files behind the first ops, which are done rightly so far. -/
def OpsSt (L : List Fl) (O : List Dp) (k : Nat) (C : List Fl) : Prop := goodB L O = goodB C (O.drop k) ∧ doAll L O = doAll C (O.drop k) ∧ filesB C = true
theorem OpsSt.zero {L : List Fl} (O : List Dp) (h : filesB L = true) : OpsSt L O 0 L := ⟨rfl, rfl, h⟩
theorem OpsSt.next {L : List Fl} {O : List Dp} {k : Nat} {C : List Fl} (h : OpsSt L O k C) (hk : k < O.length) (h1 : formB O[k] = true) (h2 : foundB C O[k] = true) (h3 : fitsB (doL C O[k]) = true) : OpsSt L O (k + 1) (doL C O[k]) := by
  refine ⟨?_, ?_, ?_⟩
  · rw [h.1, good_drop hk, h1, h2, h3]; rfl
  · rw [h.2.1, all_drop hk]
  · rw [files_fits (do_files (files_parts h.2.2).2.2 h1)]; exact h3
theorem OpsSt.bad {L : List Fl} {O : List Dp} {k : Nat} {C : List Fl} (h : OpsSt L O k C) (hk : k < O.length) (hb : (formB O[k] && foundB C O[k] && fitsB (doL C O[k])) = false) (L1 : List Fl) : diskB (L1, L, O) = false := by
  have e : goodB L O = false := by rw [h.1, good_drop hk, hb]; rfl
  unfold diskB
  simp only
  rw [e]
  simp
theorem OpsSt.last {L : List Fl} {O : List Dp} {C : List Fl} (h : OpsSt L O O.length C) (hL : filesB L = true) (hO : O.length ≤ 200) (L1 : List Fl) : diskB (L1, L, O) = sameL C L1 := by
  obtain ⟨h1, h2, h3⟩ := h
  rw [List.drop_length] at h1 h2
  unfold diskB
  simp only
  rw [hL, h1, h2, decide_eq_true hO]
  rfl
theorem disk_no1 {L1 L2 : List Fl} {O : List Dp} (h : filesB L1 = false) : diskB (L1, L2, O) = false := by
  cases e : diskB (L1, L2, O)
  · rfl
  · have := disk_live e
    rw [h] at this
    exact absurd this (by simp)
theorem disk_no2 {L1 L2 : List Fl} {O : List Dp} (h : filesB L2 = false) : diskB (L1, L2, O) = false := by
  unfold diskB
  simp only
  rw [h]; rfl
theorem disk_no3 {L1 L2 : List Fl} {O : List Dp} (h : ¬ O.length ≤ 200) : diskB (L1, L2, O) = false := by
  unfold diskB
  simp only
  rw [decide_eq_false h]; simp

set_option maxRecDepth 100000 in
set_option maxHeartbeats 4000000 in
theorem specDiskOk_any (A1 A2 A3 : Option Addr) (n1 c1 n2 c2 n3 c3 : Nat) (L1 L2 : List Fl) (O : List Dp) (hn1 : n1 = L1.length) (hn2 : n2 = L2.length) (hn3 : n3 = O.length) (w : World)
    (hm1 : n1 ≤ 1048576) (hm2 : n2 ≤ 1048576) (hm3 : n3 ≤ 1048576) (hs1 : sumL L1 ≤ 1048576) (hs2 : sumL L2 ≤ 1048576) (hs3 : szL szDp O ≤ 1048576) (H1 : FilesAt w w.heap.size A1 L1) (H2 : FilesAt w w.heap.size A2 L2) (H3 : OpsAt w w.heap.size A3 O) :
    Calls Try.prog 23 #[.agg #[.slice A1 n1 c1, .slice A2 n2 c2, .slice A3 n3 c3]] w fun e w' => e = .returned (.bool (diskB (L1, L2, O))) ∧ Bl w w' := by
  have K1 := Lib.hid H1
  have K2 := Lib.hid H2
  have K3 := Lib.hid H3
  have N1 := Lib.hid hn1
  have N2 := Lib.hid hn2
  have N3 := Lib.hid hn3
  have S3 := Lib.hid hs3
  clear H1 H2 H3 hn1 hn2 hn3 hs3
  by_cases h1 : filesB L1 = true
  · by_cases h2 : filesB L2 = true
    · by_cases h3 : (200 : Int) < (n3 : Int)
      · go_enter Try.func23, Try.ntmps23
        go_wp2_with fail
        refine (l15Files_any A1 n1 c1 L1 N1.out _ (by omega) (by omega) (K1.out.bl (by repeat' (first | exact Bl.refl _ | with_reducible assumption | with_reducible refine Bl.drew_ ?_ | with_reducible refine Bl.drewN_ ?_ _ | with_reducible refine Bl.alloc_ ?_ _ | with_reducible refine Bl.trans_ ?_ (by assumption) | with_reducible refine Bl.trans_ ?_ (And.left (by assumption)))))).mono ?_
        rintro e w1 ⟨rfl, hb1⟩
        obtain ⟨q0, q1, q2⟩ := box3 hb1
        have B1 := Lib.hid ((Bl.alloc_ (Bl.refl w) _).trans_ hb1)
        rw [h1]
        go_wp2_with fail
        refine (l15Files_any A2 n2 c2 L2 N2.out _ (by omega) (by omega) (K2.out.bl B1.out)).mono ?_
        rintro e w2 ⟨rfl, hb2⟩
        obtain ⟨q0, q1, q2⟩ := box3 (hb1.trans_ hb2)
        rw [h2]
        go_wp2
        go_ret
        exact ⟨ret_bool (disk_no3 (by have := N3.out; omega)).symm, B1.out.trans_ hb2⟩
      · have hO : O.length ≤ 200 := by have := N3.out; omega
        have HL2 := Lib.hid h2
        have h3' : ¬ (200 : Int) < (n3 : Int) := h3
        go_enter Try.func23, Try.ntmps23
        go_wp2_with fail
        refine (l15Files_any A1 n1 c1 L1 N1.out _ (by omega) (by omega) (K1.out.bl (by repeat' (first | exact Bl.refl _ | with_reducible assumption | with_reducible refine Bl.drew_ ?_ | with_reducible refine Bl.drewN_ ?_ _ | with_reducible refine Bl.alloc_ ?_ _ | with_reducible refine Bl.trans_ ?_ (by assumption) | with_reducible refine Bl.trans_ ?_ (And.left (by assumption)))))).mono ?_
        rintro e w1 ⟨rfl, hb1⟩
        obtain ⟨q0, q1, q2⟩ := box3 hb1
        have B1 := Lib.hid ((Bl.alloc_ (Bl.refl w) _).trans_ hb1)
        rw [h1]
        go_wp2_with fail
        refine (l15Files_any A2 n2 c2 L2 N2.out _ (by omega) (by omega) (K2.out.bl B1.out)).mono ?_
        rintro e w2 ⟨rfl, hb2⟩
        have X2 := Lib.hid (hb1.trans_ hb2)
        obtain ⟨q0, q1, q2⟩ := box3 X2.out
        rw [h2]
        clear hb1 hb2 B1
        go_wp2
        go_loopw [3, 4] (fun v i wr => ∃ (k m c : Nat) (A : Option Addr) (C : List Fl), k ≤ n3 ∧ i = .int .i64 k ∧ v = .slice A m c ∧ Hid (m = C.length) ∧ Hid (FilesAt wr wr.heap.size A C) ∧ Hid (OpsSt L2 O k C) ∧ Bl (w.alloc (.cells #[.slice A1 n1 c1, .slice A2 n2 c2, .slice A3 n3 c3] 31)) wr) (fun _ i _ => n3 - (intOf i).toNat)
        case atStart => exact ⟨0, n2, c2, A2, L2, by omega, rfl, rfl, N2, Lib.hid (K2.out.bl ((Bl.alloc_ (Bl.refl w) _).trans_ X2.out)), Lib.hid (OpsSt.zero O HL2.out), X2.out⟩
        case round =>
          obtain ⟨k, m, c, A, C, hk, rfl, rfl, HM, HF, HO, hbl⟩ := hrel
          obtain ⟨x0, x1, x2⟩ := box3 hbl
          have BW := Lib.hid hbl
          have BX := Lib.hid ((Bl.alloc_ (Bl.refl w) _).trans_ hbl)
          by_cases hlt : k < n3
          · have hkl : k < O.length := by have := N3.out; omega
            obtain ⟨g3, o3, rfl, hg3, hc3⟩ := K3.out.cell (by omega)
            obtain ⟨p0, p1, p2, p3⟩ := hc3 k hkl
            have hsz := szL_at szDp O k hkl
            have hs3 := S3.out
            obtain ⟨o, ho⟩ : ∃ o, o = O[k] := ⟨_, rfl⟩
            rw [← ho] at p0 p1 p2 p3 hsz
            have HOO := Lib.hid ho
            have hds : o.data.size ≤ 1048576 := by have e : szDp o = o.name.size + o.to.size + o.data.size := rfl; omega
            have HC := Lib.hid (show ∀ wx, Bl w wx → wx.cell? ⟨g3, o3 + k * 4, none⟩ = some (.int .i64 o.kind) ∧ wx.cell? ⟨g3, o3 + k * 4 + 1, none⟩ = some (.string o.name) ∧ wx.cell? ⟨g3, o3 + k * 4 + 2, none⟩ = some (.string o.to) ∧ wx.cell? ⟨g3, o3 + k * 4 + 3, none⟩ = some (.string o.data) from fun wx hb =>
              ⟨((bcell hb).1 _ _ hg3).trans p0, ((bcell hb).1 _ _ hg3).trans p1, ((bcell hb).1 _ _ hg3).trans p2, ((bcell hb).1 _ _ hg3).trans p3⟩)
            obtain ⟨y0, y1, y2, y3⟩ := HC.out wr BX.out
            obtain ⟨f1, f2, f3⟩ := files_parts HO.out.2.2
            have hml : m ≤ 60 := by rw [HM.out]; exact f1
            have i0 : (0 : Int) ≤ (k : Int) := by omega
            have i1 : (k : Int) < (n3 : Int) := by omega
            have SO := Lib.hid (ord_sorted f3)
            have hdl := do_len C o
            have hdsm := do_sum C o
            have HFF := Lib.hid (fun h : formB o = true => files_fits (do_files f3 h))
            clear hc3 p0 p1 p2 p3 ho hsz hs3 f3 hbl
            go_wp2_with fail
            refine (l15Do_any A m c C HM.out o _ (by omega) (by omega) (by omega) SO.out HF.out).mono ?_
            rintro e w3 ⟨v3, rfl, hv3, hb3⟩
            obtain ⟨A', c', rfl, hc', ha', -⟩ := own_shapeF hv3
            have F3 := Lib.hid ha'
            have X3 := Lib.hid (BW.out.trans_ hb3)
            have Y3 := Lib.hid (BX.out.trans_ hb3)
            obtain ⟨x0, x1, x2⟩ := box3 X3.out
            obtain ⟨y0, y1, y2, y3⟩ := HC.out w3 Y3.out
            obtain ⟨D, hD⟩ : ∃ D, D = doL C o := ⟨_, rfl⟩
            rw [← hD] at hdl hdsm hc' F3 HFF ⊢
            have HD := Lib.hid hD
            obtain ⟨m', hm'⟩ : ∃ m', m' = D.length := ⟨_, rfl⟩
            rw [← hm'] at hdl hc' ⊢
            have HM' := Lib.hid hm'
            clear hv3 ha' hD hm' hb3
            by_cases b1 : foundB C o = true
            · rw [b1]
              go_wp2_with fail
              refine (l15Form_any o _).mono ?_
              rintro e w4 ⟨rfl, hb4⟩
              have X4 := Lib.hid (X3.out.trans_ hb4)
              have Y4 := Lib.hid (Y3.out.trans_ hb4)
              have F4 := Lib.hid (F3.out.bl hb4)
              obtain ⟨x0, x1, x2⟩ := box3 X4.out
              clear hb4 y0 y1 y2 y3
              by_cases b2 : formB o = true
              · rw [b2]
                go_wp2_with fail
                refine (l15Files_any A' m' c' D HM'.out _ (by omega) (by omega) F4.out).mono ?_
                rintro e w5 ⟨rfl, hb5⟩
                have X5 := Lib.hid (X4.out.trans_ hb5)
                have Y5 := Lib.hid (Y4.out.trans_ hb5)
                have F5 := Lib.hid (F4.out.bl hb5)
                rw [HFF.out b2]
                clear hb5
                by_cases b3 : fitsB D = true
                · have HB3 := Lib.hid b3
                  have HB1 := Lib.hid b1
                  have HB2 := Lib.hid b2
                  rw [b3]
                  clear b1 b2 b3
                  go_wp2
                  go_roundw
                  case rel =>
                    refine ⟨k + 1, m', c', A', D, by omega, by go_num, rfl, HM', F5, Lib.hid ?_, X5.out⟩
                    have := HO.out.next hkl (by rw [← HOO.out]; exact HB2.out) (by rw [← HOO.out]; exact HB1.out) (by rw [← HOO.out, ← HD.out]; exact HB3.out)
                    rwa [← HOO.out, ← HD.out] at this
                  case measure => simp [intOf]; omega
                · have b3' : fitsB D = false := by simpa using b3
                  rw [b3']
                  go_wp2
                  go_ret
                  exact ⟨ret_bool (HO.out.bad hkl (by rw [← HOO.out, ← HD.out, b3', Bool.and_false]) L1).symm, Y5.out⟩
              · have b2' : formB o = false := by simpa using b2
                rw [b2']
                go_wp2
                go_ret
                exact ⟨ret_bool (HO.out.bad hkl (by rw [← HOO.out, b2']; rfl) L1).symm, Y4.out⟩
            · have b1' : foundB C o = false := by simpa using b1
              rw [b1']
              go_wp2
              go_ret
              exact ⟨ret_bool (HO.out.bad hkl (by rw [← HOO.out, b1']; simp) L1).symm, Y3.out⟩
          · obtain rfl : k = n3 := by omega
            obtain ⟨f1, f2, f3⟩ := files_parts HO.out.2.2
            have hml : m ≤ 60 := by rw [HM.out]; exact f1
            go_wp2_with fail
            refine (l15Same_any A A1 m n1 c c1 C L1 HM.out N1.out _ (by omega) (by omega) HF.out (K1.out.bl BX.out)).mono ?_
            rintro e w3 ⟨rfl, hb3⟩
            have e : diskB (L1, L2, O) = sameL C L1 := OpsSt.last (by rw [← N3.out]; exact HO.out) HL2.out hO L1
            have E := Lib.hid e
            clear e
            go_wp2
            go_ret
            exact ⟨ret_bool E.out.symm, BX.out.trans_ hb3⟩
    · have h2' : filesB L2 = false := by simpa using h2
      go_enter Try.func23, Try.ntmps23
      go_wp2_with fail
      refine (l15Files_any A1 n1 c1 L1 N1.out _ (by omega) (by omega) (K1.out.bl (by repeat' (first | exact Bl.refl _ | with_reducible assumption | with_reducible refine Bl.drew_ ?_ | with_reducible refine Bl.drewN_ ?_ _ | with_reducible refine Bl.alloc_ ?_ _ | with_reducible refine Bl.trans_ ?_ (by assumption) | with_reducible refine Bl.trans_ ?_ (And.left (by assumption)))))).mono ?_
      rintro e w1 ⟨rfl, hb1⟩
      obtain ⟨q0, q1, q2⟩ := box3 hb1
      have B1 := Lib.hid ((Bl.alloc_ (Bl.refl w) _).trans_ hb1)
      rw [h1]
      go_wp2_with fail
      refine (l15Files_any A2 n2 c2 L2 N2.out _ (by omega) (by omega) (K2.out.bl B1.out)).mono ?_
      rintro e w2 ⟨rfl, hb2⟩
      rw [h2']
      go_wp2
      go_ret
      exact ⟨ret_bool (disk_no2 h2').symm, B1.out.trans_ hb2⟩
  · have h1' : filesB L1 = false := by simpa using h1
    go_enter Try.func23, Try.ntmps23
    go_wp2_with fail
    refine (l15Files_any A1 n1 c1 L1 N1.out _ (by omega) (by omega) (K1.out.bl (by repeat' (first | exact Bl.refl _ | with_reducible assumption | with_reducible refine Bl.drew_ ?_ | with_reducible refine Bl.drewN_ ?_ _ | with_reducible refine Bl.alloc_ ?_ _ | with_reducible refine Bl.trans_ ?_ (by assumption) | with_reducible refine Bl.trans_ ?_ (And.left (by assumption)))))).mono ?_
    rintro e w1 ⟨rfl, hb1⟩
    rw [h1']
    go_wp2
    go_ret
    exact ⟨ret_bool (disk_no1 h1').symm, (Bl.alloc_ (Bl.refl w) _).trans_ hb1⟩

end Go.Proofs.Ytgfmgmcpfefmkaa
