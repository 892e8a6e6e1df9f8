/-
  What is proved here: the walk of the law on vital arcs when another arc is taken out: at every code it returns true, and leaves what was there as it was. No conditions beyond those that each theorem states.
-/
import Derived.Test.YtelgjfflhcmljaaZD
import Derived.Test.YtelgjfflhcmljaaQDR
import Derived.Test.YtelgjfflhcmljaaQSM
import Derived.Deep.Cut
import Derived.Deep.CutRange
set_option linter.unusedSimpArgs false
set_option linter.unusedVariables false
namespace Go.Proofs.Ytelgjfflhcmljaa
open Go.RowKit

theorem OwnA.caps {w : World} {B : Nat} {v : Value} {L : List Arc3} (h : OwnA w B v L) : ∀ A l c, v = .slice A l c → L.length ≤ c ∧ c ≤ 9223372036854775807 := fun A l c ev => by
  subst ev
  have h' : w.ownsRow B 82 3 (.slice A l c) L.length (cs3 L) := h
  rcases h'.2 with ⟨e, h0⟩ | ⟨g, cap, cur, e, hB, hg, hnc, hcm, -⟩
  · injection e with e1 e2 e3
    omega
  · injection e with e1 e2 e3
    unfold maxLen at hcm
    omega
theorem WRes.yes {N : Int} {M : List Arc3} {w w' : World} {e : Ending} (h : WRes true N M w e w') : ∃ v, e = .returned (.tuple #[.agg #[.int .i64 N, v], .bool true]) ∧ OwnA w' w.heap.size v M ∧ Bl w w' := by
  obtain ⟨v, h1, h2, h3⟩ := h
  exact ⟨v, h1, h2, h3⟩
theorem WRes.nay {N : Int} {M : List Arc3} {w w' : World} {e : Ending} (h : WRes false N M w e w') : ∃ v, e = .returned (.tuple #[.agg #[.int .i64 0, v], .bool false]) ∧ OwnA w' w.heap.size v [] ∧ Bl w w' := by
  obtain ⟨v, h1, h2, h3⟩ := h
  exact ⟨v, h1, h2, h3⟩
set_option maxRecDepth 100000 in
set_option maxHeartbeats 1000000 in
theorem drawVital_any (A : Option Addr) (n c : Nat) (w : World) (hn : n ≤ 1099511627776) (H : BytesAt w A n) :
    Calls Try.prog 60 #[.slice A n c] w (DrawnG2 w) := by
  have K := Lib.hid H
  clear H
  go_enter Try.func60, Try.ntmps60
  go_wp2_with fail
  refine (drawDistOf_any A n c _ hn (K.out.bl (by repeat' (first | exact Bl.refl _ | with_reducible assumption | with_reducible refine Bl.drew_ ?_ | with_reducible refine Bl.drewN_ ?_ _ | with_reducible refine Bl.alloc_ ?_ _ | with_reducible refine Bl.trans_ ?_ (by assumption) | with_reducible refine Bl.trans_ ?_ (And.left (by assumption)))))).mono ?_
  rintro e w1 ⟨N, A', l, c', L, s, t, rfl, hd, hs, ht, hb⟩
  have D := Lib.hid hd
  have S1 := Lib.hid hs
  have S2 := Lib.hid ht
  have B := Lib.hid hb
  obtain ⟨r0, r1, fr0, fr1⟩ := Two.facts ((Two.new w (.int .i64 0) (.slice none 0 0)).bl hb)
  have sz := hb.size
  simp only [World.size_alloc] at sz
  clear hd hs ht hb
  go_wp2
  refine bodyPost_ret (v := .tuple #[.agg #[.int .i64 N, .slice A' l c'], .int .i64 s, .int .i64 t]) (by simp [results, Try.results60, go_sem, r0, r1, fr0, fr1]) rfl ?_
  have DD := D.out
  rw [World.size_alloc] at DD
  exact ⟨N, A', l, c', L, s, t, rfl, ⟨DD.1, DD.2.1, DD.2.2.1, ((DD.2.2.2.set_ (by show w.heap.size < w.heap.size + 1; omega) _).set_ (by show w.heap.size < w.heap.size + 1; omega) _).low (by omega)⟩, S1.out, S2.out, (((Bl.alloc_ (Bl.refl w) _).trans_ B.out).set_ (Nat.le_refl _) _).set_ (Nat.le_refl _) _⟩


/-- What is vital stays so when another arc is taken out, as long as it is as far as it was. -/
theorem vital_more {N s t x y : Int} {L : List Arc3} {a : Arc3} (ha : a ∈ vitL N L s t) (hd : distOfI N (restL x y L) s t = distOfI N L s t) : a ∈ vitL N (restL x y L) s t := by
  unfold vitL at ha
  split at ha
  · rename_i h
    obtain ⟨hh, h0⟩ := h
    obtain ⟨ho, hs, ht⟩ := has2_of hh
    rw [List.mem_filter] at ha
    obtain ⟨hL, hv⟩ := ha
    have hh2 : has2 N (restL x y L) s t = true := by
      unfold has2
      rw [restL_ok ho]
      simpa using ⟨hs, ht⟩
    have ho2 := restL_ok (u := x) (v := y) ho
    have hN := (okB_elim ho).2.1
    unfold vitL
    rw [if_pos ⟨hh2, by omega⟩, List.mem_filter]
    have hdet : ∀ u v, detI N (restL u v L) s t u v = detI N (restL u v L) s t u v := fun _ _ => rfl
    refine ⟨?_, ?_⟩
    · unfold restL
      rw [List.mem_filter]
      refine ⟨hL, ?_⟩
      rw [Bool.not_eq_true', Bool.eq_false_iff]
      intro he
      obtain ⟨e1, e2⟩ := isEnds_iff.1 he
      unfold vitB detI at hv
      rw [if_pos hh, e1, e2, ← distOfI_of ho2 hs ht, hd] at hv
      simp at hv
    · unfold vitB
      rw [bne_iff_ne]
      intro hc
      have h1 : 0 ≤ dAt (distL N (restL a.1 a.2.1 (restL x y L)) s) t := by
        unfold detI at hc
        rw [if_pos hh2] at hc
        omega
      have h2 : dAt (distL N (restL a.1 a.2.1 (restL x y L)) s) t = distOfI N L s t := by
        unfold detI at hc
        rw [if_pos hh2] at hc
        omega
      have h3 := IsDist.lighter (L := restL a.1 a.2.1 L) (M := restL a.1 a.2.1 (restL x y L)) (arcsIn_of_ok (restL_ok ho2)) (fun b hb => by
        refine ⟨b, ?_, rfl, rfl, Int.le_refl _⟩
        unfold restL at hb ⊢
        rw [List.mem_filter, List.mem_filter] at hb
        rw [List.mem_filter]
        exact ⟨hb.1.1, hb.2⟩) (distL_is (arcsIn_of_ok (restL_ok (u := a.1) (v := a.2.1) ho)) hN hs.1 hs.2) (distL_is (arcsIn_of_ok (restL_ok ho2)) hN hs.1 hs.2) _ t ht.1 ht.2 rfl h1
      have h4 := rest_far (u := a.1) (v := a.2.1) ho hs ht h3.1
      rw [← distOfI_of ho hs ht] at h4
      unfold vitB detI at hv
      rw [if_pos hh, bne_iff_ne] at hv
      omega
  · cases ha
theorem vit_ok {N s t : Int} {L : List Arc3} (h : 0 < (vitL N L s t).length) : okB N L = true := by
  unfold vitL at h
  split at h
  · rename_i hh
    exact (has2_of hh.1).1
  · simp at h
/-- Is it one of the first j? -/
def memB (M : List Arc3) (x y z : Int) (j : Nat) : Bool := (List.range j).any fun i => (M.getD i (0, 0, 0)).1 == x && ((M.getD i (0, 0, 0)).2.1 == y && (M.getD i (0, 0, 0)).2.2 == z)
theorem memB_succ (M : List Arc3) (x y z : Int) (j : Nat) : memB M x y z (j + 1) = (memB M x y z j || ((M.getD j (0, 0, 0)).1 == x && ((M.getD j (0, 0, 0)).2.1 == y && (M.getD j (0, 0, 0)).2.2 == z))) := by
  unfold memB
  rw [List.range_succ, List.any_append]
  simp
theorem memB_all {M : List Arc3} {a : Arc3} (h : a ∈ M) : memB M a.1 a.2.1 a.2.2 M.length = true := by
  obtain ⟨i, hi, e⟩ := List.getElem_of_mem h
  unfold memB
  rw [List.any_eq_true]
  refine ⟨i, List.mem_range.2 hi, ?_⟩
  have g : M.getD i (0, 0, 0) = a := by rw [← e]; simp [hi]
  rw [g]
  simp

set_option maxRecDepth 100000 in
set_option maxHeartbeats 4000000 in
theorem lawVitalMore_any (A : Option Addr) (n c : Nat) (w : World) (H : BytesAt w A n) :
    Calls Try.prog 13 #[.slice A n c] w fun e w' => e = .returned (.bool true) ∧ Bl w w' := by
  have K := Lib.hid H
  clear H
  by_cases hbig : (1048576 : Int) < (n : Int)
  · have hb : decide ((1048576 : Int) < (n : Int)) = true := by simpa using hbig
    clear hbig
    go_enter Try.func13, Try.ntmps13
    go_wp2_with (go_at_call 58; refine (big_any _ _ _ _).mono ?_; rintro e w' ⟨rfl, rfl⟩)
    go_ret
    exact ⟨rfl, (by repeat' (first | exact Bl.refl _ | with_reducible assumption | with_reducible refine Bl.drew_ ?_ | with_reducible refine Bl.drewN_ ?_ _ | with_reducible refine Bl.alloc_ ?_ _ | with_reducible refine Bl.trans_ ?_ (by assumption) | with_reducible refine Bl.trans_ ?_ (And.left (by assumption))))⟩
  · have hb : decide ((1048576 : Int) < (n : Int)) = false := by simpa using hbig
    have hn : n ≤ 1099511627776 := by omega
    clear hbig
    go_enter Try.func13, Try.ntmps13
    go_wp2_with fail
    refine (big_any _ _ _ _).mono ?_
    rintro e w1 ⟨rfl, rfl⟩
    go_wp2_with fail
    refine (drawVital_any A n c _ hn K.out).mono ?_
    rintro e w1 ⟨N, A', l, c', L, s, t, rfl, hd, hs, ht, hb1⟩
    obtain ⟨ha, hlc⟩ := hd.arcs
    have HCC := Lib.hid (show c' ≤ 9223372036854775807 from (hd.2.2.2.caps _ _ _ rfl).2)
    have HL := Lib.hid hd.1
    have hl200 := hd.2.1
    have HA := Lib.hid (ha.bl (Bl.alloc_ (Bl.refl w1) (.cells #[.int .i64 N, .slice A' l c'] 29)))
    have B1 := Lib.hid (hb1.alloc_ (.cells #[.int .i64 N, .slice A' l c'] 29))
    clear hd hs ht hb1 ha
    go_wp2_with fail
    refine (implVital_any N s t A' l c' L HL.out hlc HCC.out _ (by omega) HA.out).mono ?_
    rintro e w2 ⟨v2, rfl, hv2, hb2⟩
    obtain ⟨A2, c2, rfl, hi2, -⟩ := hv2.shape
    obtain ⟨V, hV⟩ : ∃ V, V = vitL N L s t := ⟨_, rfl⟩
    have MORE := Lib.hid (show ∀ a ∈ V, ∀ x y, distOfI N (restL x y L) s t = distOfI N L s t → memB (vitL N (restL x y L) s t) a.1 a.2.1 a.2.2 (vitL N (restL x y L) s t).length = true from by subst hV; exact fun a ha x y hd => memB_all (vital_more ha hd))
    have VOK := Lib.hid (show 0 < V.length → okB N L = true from by subst hV; exact vit_ok)
    have hk150 : V.length ≤ 150 := by rw [hV]; exact vitL_len
    have HV := Lib.hid hV
    rw [← hV] at hi2 ⊢
    have I2 := Lib.hid hi2
    obtain ⟨k, hk⟩ : ∃ k, k = V.length := ⟨_, rfl⟩
    rw [← hk] at hk150 VOK ⊢
    have HK := Lib.hid hk
    obtain ⟨q0, q1⟩ := box2 hb2
    clear hv2 hi2 hk hV
    go_wp2_with fail
    refine (specVital_any N s t A' l c' L HL.out hlc _ (by omega) (HA.out.bl hb2)).mono ?_
    rintro e w3 ⟨v3, rfl, hv3, hb3⟩
    obtain ⟨A3, c3, rfl, hi3, -⟩ := hv3.shape
    rw [← HV.out] at hi3 ⊢
    rw [← HK.out]
    have P3 := Lib.hid (hb2.trans_ hb3)
    have J3 := Lib.hid hi3
    obtain ⟨q0, q1⟩ := box2 P3.out
    clear hv3 hi3
    by_cases hk0 : k = 0
    · have bk : ((k : Int) == 0) = true := by simp; omega
      clear hk0
      go_wp2_with fail
      refine (sameArcs_yes A2 A3 c2 c3 V k HK.out _ (by omega) (I2.out.bl hb3) J3.out).mono ?_
      rintro e w4 ⟨rfl, hb4⟩
      have P4 := Lib.hid (P3.out.trans_ hb4)
      have I4 := Lib.hid (I2.out.bl (hb3.trans_ hb4))
      clear q0 q1 hb2 hb3 hb4
      obtain ⟨q0, q1⟩ := box2 P4.out
      go_wp2_with fail
      refine (specVital_any N s t A' l c' L HL.out hlc _ (by omega) (HA.out.bl P4.out)).mono ?_
      rintro e w5 ⟨v5, rfl, hv5, hb5⟩
      obtain ⟨A5, c5, rfl, hi5, -⟩ := hv5.shape
      rw [← HV.out] at hi5 ⊢
      rw [← HK.out]
      go_wp2_with fail
      refine (sameArcs_yes A2 A5 c2 c5 V k HK.out _ (by omega) (I4.out.bl hb5) hi5).mono ?_
      rintro e w6 ⟨rfl, hb6⟩
      go_wp2
      go_ret
      exact ⟨rfl, B1.out.trans_ (P4.out.trans_ (hb5.trans_ hb6))⟩
    · have bk : ((k : Int) == 0) = false := by simp; omega
      have HO := Lib.hid (VOK.out (by omega))
      have HPR := Lib.hid (show ∀ i (hi : i < L.length), pairB N L[i].1 L[i].2.1 = true from fun i hi => by
        have := (okB_elim HO.out).2.2.2.1 L[i] (List.getElem_mem hi)
        unfold arcB at this
        unfold pairB
        simp only [decide_eq_true_eq] at this ⊢
        exact this.1)
      clear hk0
      go_wp2_with fail
      refine (sameArcs_yes A2 A3 c2 c3 V k HK.out _ (by omega) (I2.out.bl hb3) J3.out).mono ?_
      rintro e w4 ⟨rfl, hb4⟩
      have P4 := Lib.hid (P3.out.trans_ hb4)
      have I4 := Lib.hid (I2.out.bl (hb3.trans_ hb4))
      clear q0 q1 hb2 hb3 hb4
      obtain ⟨q0, q1⟩ := box2 P4.out
      go_wp2_with fail
      refine (implDistOf_any N s t A' l c' L HL.out hlc _ (by omega) (HA.out.bl P4.out)).mono ?_
      rintro e w5 ⟨rfl, hb5⟩
      have V5 := Lib.hid (I4.out.bl hb5)
      have G5 := Lib.hid (P4.out.trans_ hb5)
      have A5 := Lib.hid (HA.out.bl G5.out)
      obtain ⟨d, hd⟩ : ∃ d, d = distOfI N L s t := ⟨_, rfl⟩
      have HD := Lib.hid hd
      rw [← hd]
      clear q0 q1 hb5 hd bk
      go_wp2_with fail
      go_loopw [8] (fun iv wr => ∃ i : Nat, i ≤ l ∧ iv = .int .i64 i ∧ Bl w5 wr) (fun iv _ => l - (intOf iv).toNat)
      case atStart => exact ⟨0, by omega, rfl, Bl.refl _⟩
      case round =>
        obtain ⟨wo, rfl⟩ : ∃ wo : World, wo = wr := ⟨_, rfl⟩
        obtain ⟨i, hi, rfl, hbl⟩ := hrel
        have HBL := Lib.hid hbl
        obtain ⟨q0, q1⟩ := box2 (G5.out.trans_ hbl)
        by_cases hlt : i < l
        · have hil : i < L.length := by have := HL.out; omega
          obtain ⟨gA, oA, rfl, hgA, hcA⟩ := (A5.out.bl hbl) (by omega)
          obtain ⟨p1, p2, -⟩ := hcA i hil
          have HP := Lib.hid (HPR.out i hil)
          clear hcA
          generalize L[i].1 = x at p1 HP
          generalize L[i].2.1 = y at p2 HP
          have i0 : (0 : Int) ≤ (i : Int) := by omega
          have i1 : (i : Int) < (l : Int) := by omega
          have HSH := Lib.hid (show ∀ wx, Bl wo wx → Bl wo wx ∧ wx.cell? ⟨w1.heap.size, 0, none⟩ = some (.int .i64 N) ∧ wx.cell? ⟨w1.heap.size, 1, none⟩ = some (.slice (some ⟨gA, oA, none⟩) l c') ∧ wx.cell? ⟨gA, oA + i * 3, none⟩ = some (.int .i64 x) ∧ wx.cell? ⟨gA, oA + i * 3 + 1, none⟩ = some (.int .i64 y) from fun wx hb => by
            obtain ⟨y0, y1⟩ := box2 (G5.out.trans_ (HBL.out.trans_ hb))
            exact ⟨hb, y0, y1, ((bcell hb).1 _ _ hgA).trans p1, ((bcell hb).1 _ _ hgA).trans p2⟩)
          go_upto_region 11 with fail
          go_cut [9, 10] from 56 to 72 (fun v9 v10 wc => ∃ (bb : Nat) (A6 : Option Addr) (m6 c6 : Nat), v9 = .pointer (some ⟨bb, 0, none⟩) ∧ v10 = .bool true ∧ m6 = (restL x y L).length ∧ m6 ≤ c6 ∧ c6 ≤ 9223372036854775807 ∧ Two wc bb (.int .i64 N) (.slice A6 m6 c6) ∧ ArcsAt wc wc.heap.size A6 (restL x y L) ∧ Bl wo wc)
          case first =>
            clear p1 p2
            refine wp_region_held_drew (S := fun wx => Bl wo wx ∧ wx.cell? ⟨w1.heap.size, 0, none⟩ = some (.int .i64 N) ∧ wx.cell? ⟨w1.heap.size, 1, none⟩ = some (.slice (some ⟨gA, oA, none⟩) l c') ∧ wx.cell? ⟨gA, oA + i * 3, none⟩ = some (.int .i64 x) ∧ wx.cell? ⟨gA, oA + i * 3 + 1, none⟩ = some (.int .i64 y)) (by kernel_rfl) ?_ (fun hHeld => ?_)
            · exact HSH.out _ (Bl.drew_ (Bl.refl wo))
            refine wpAnyH_take (i := 0) (v := ?_) rfl (by kernel_rfl) (by kernel_rfl) (by kernel_rfl) (fun _ _ _ h => h) (Or.inl ⟨by kernel_rfl, ?_⟩) (by assumption) ?_
            rotate_left
            · (intro wx hSw; (try dsimp only at hSw); go_simp; try (with_reducible rfl))
            try simp only [Act.put, List.getElem_toArray, List.getElem_cons_succ, List.getElem_cons_zero, List.setIfInBounds_toArray, List.set_cons_zero, List.set_cons_succ]
            refine wpAnyH_take (i := 1) (v := ?_) rfl (by kernel_rfl) (by kernel_rfl) (by kernel_rfl) (fun _ _ _ h => h) (Or.inl ⟨by kernel_rfl, ?_⟩) (by assumption) ?_
            rotate_left
            · (intro wx hSw; (try dsimp only at hSw); go_simp; try (with_reducible rfl))
            try simp only [Act.put, List.getElem_toArray, List.getElem_cons_succ, List.getElem_cons_zero, List.setIfInBounds_toArray, List.set_cons_zero, List.set_cons_succ]
            refine wpAnyH_take (i := 2) (v := ?_) rfl (by kernel_rfl) (by kernel_rfl) (by kernel_rfl) (fun _ _ _ h => h) (Or.inl ⟨by kernel_rfl, ?_⟩) (by assumption) ?_
            rotate_left
            · (intro wx hSw; (try dsimp only at hSw); go_simp; try (with_reducible rfl))
            try simp only [Act.put, List.getElem_toArray, List.getElem_cons_succ, List.getElem_cons_zero, List.setIfInBounds_toArray, List.set_cons_zero, List.set_cons_succ]
            refine wpAnyH_take (i := 3) (v := ?_) rfl (by kernel_rfl) (by kernel_rfl) (by kernel_rfl) (fun _ _ _ h => h) (Or.inl ⟨by kernel_rfl, ?_⟩) (by assumption) ?_
            rotate_left
            · (intro wx hSw; (try dsimp only at hSw); go_simp; try (with_reducible rfl))
            try simp only [Act.put, List.getElem_toArray, List.getElem_cons_succ, List.getElem_cons_zero, List.setIfInBounds_toArray, List.set_cons_zero, List.set_cons_succ]
            refine wpAnyH_take (i := 4) (v := ?_) rfl (by kernel_rfl) (by kernel_rfl) (by kernel_rfl) (fun _ _ _ h => h) (Or.inl ⟨by kernel_rfl, ?_⟩) (by assumption) ?_
            rotate_left
            · (intro wx hSw; (try dsimp only at hSw); go_simp; try (with_reducible rfl))
            try simp only [Act.put, List.getElem_toArray, List.getElem_cons_succ, List.getElem_cons_zero, List.setIfInBounds_toArray, List.set_cons_zero, List.set_cons_succ]
            refine wpAnyH_take (i := 5) (v := ?_) rfl (by kernel_rfl) (by kernel_rfl) (by kernel_rfl) (fun _ _ _ h => h) (Or.inl ⟨by kernel_rfl, ?_⟩) (by assumption) ?_
            rotate_left
            · (intro wx hSw; (try dsimp only at hSw); go_simp; try (with_reducible rfl))
            try simp only [Act.put, List.getElem_toArray, List.getElem_cons_succ, List.getElem_cons_zero, List.setIfInBounds_toArray, List.set_cons_zero, List.set_cons_succ]
            refine wpAnyH_take (i := 6) (v := ?_) rfl (by kernel_rfl) (by kernel_rfl) (by kernel_rfl) (fun _ _ _ h => h) (Or.inl ⟨by kernel_rfl, ?_⟩) (by assumption) ?_
            rotate_left
            · (intro wx hSw; (try dsimp only at hSw); go_simp; try (with_reducible rfl))
            try simp only [Act.put, List.getElem_toArray, List.getElem_cons_succ, List.getElem_cons_zero, List.setIfInBounds_toArray, List.set_cons_zero, List.set_cons_succ]
            refine wpAnyH_take (i := 7) (v := ?_) rfl (by kernel_rfl) (by kernel_rfl) (by kernel_rfl) (fun _ _ _ h => h) (Or.inl ⟨by kernel_rfl, ?_⟩) (by assumption) ?_
            rotate_left
            · (intro wx hSw; (try dsimp only at hSw); go_simp; try (with_reducible rfl))
            try simp only [Act.put, List.getElem_toArray, List.getElem_cons_succ, List.getElem_cons_zero, List.setIfInBounds_toArray, List.set_cons_zero, List.set_cons_succ]
            refine wpAnyH_take (i := 8) (v := ?_) rfl (by kernel_rfl) (by kernel_rfl) (by kernel_rfl) (fun _ _ _ h => h) (Or.inl ⟨by kernel_rfl, ?_⟩) (by assumption) ?_
            rotate_left
            · (intro wx hSw; (try dsimp only at hSw); go_simp; try (with_reducible rfl))
            try simp only [Act.put, List.getElem_toArray, List.getElem_cons_succ, List.getElem_cons_zero, List.setIfInBounds_toArray, List.set_cons_zero, List.set_cons_succ]
            refine wpAnyH_take (i := 9) (v := ?_) rfl (by kernel_rfl) (by kernel_rfl) (by kernel_rfl) (fun _ _ _ h => h) (Or.inl ⟨by kernel_rfl, ?_⟩) (by assumption) ?_
            rotate_left
            · (intro wx hSw; (try dsimp only at hSw); go_simp; try (with_reducible rfl))
            try simp only [Act.put, List.getElem_toArray, List.getElem_cons_succ, List.getElem_cons_zero, List.setIfInBounds_toArray, List.set_cons_zero, List.set_cons_succ]
            refine wpAnyH_take (i := 10) (v := ?_) rfl (by kernel_rfl) (by kernel_rfl) (by kernel_rfl) (fun _ _ _ h => h) (Or.inl ⟨by kernel_rfl, ?_⟩) (by assumption) ?_
            rotate_left
            · (intro wx hSw; (try dsimp only at hSw); go_simp; try (with_reducible rfl))
            try simp only [Act.put, List.getElem_toArray, List.getElem_cons_succ, List.getElem_cons_zero, List.setIfInBounds_toArray, List.set_cons_zero, List.set_cons_succ]
            refine wpAnyH_take (i := 11) (v := ?_) rfl (by kernel_rfl) (by kernel_rfl) (by kernel_rfl) (fun _ _ _ h => h) (Or.inl ⟨by kernel_rfl, ?_⟩) (by assumption) ?_
            rotate_left
            · (intro wx hSw; (try dsimp only at hSw); go_simp; try (with_reducible rfl))
            try simp only [Act.put, List.getElem_toArray, List.getElem_cons_succ, List.getElem_cons_zero, List.setIfInBounds_toArray, List.set_cons_zero, List.set_cons_succ]
            refine wpAnyH_take (i := 12) (v := ?_) rfl (by kernel_rfl) (by kernel_rfl) (by kernel_rfl) (fun _ _ _ h => h) (Or.inl ⟨by kernel_rfl, ?_⟩) (by assumption) ?_
            rotate_left
            · (intro wx hSw; (try dsimp only at hSw); go_simp; try (with_reducible rfl))
            try simp only [Act.put, List.getElem_toArray, List.getElem_cons_succ, List.getElem_cons_zero, List.setIfInBounds_toArray, List.set_cons_zero, List.set_cons_succ]
            clear hHeld
            refine wpAnyH_ready (rs := [13, 17]) (by kernel_rfl) (by simp) ?_
            refine AllReadyH.cons rfl (fun K hK => ?_) (AllReadyH.cons rfl (fun K hK => ?_) AllReadyH.nil)
            · go_simp
              refine (implWeighedW_any N x y 0 _ l c' L HL.out hlc HCC.out _ (by omega) (A5.out.bl (HBL.out.trans_ (Bl.drew_ (Bl.refl wo))))).mono ?_
              rintro e w6 ⟨v6, he6, hv6, hb6⟩
              rw [weighedB0 HO.out, HP.out, if_pos rfl] at he6 hv6
              rw [weighed0] at hv6
              subst he6
              obtain ⟨A6, c6, rfl, -, -⟩ := hv6.shape
              try (go_wp2_with fail)
              have C6 := Lib.hid (show Bl wo w6 from (Bl.drew_ (Bl.refl wo)).trans_ hb6)
              have O6 := Lib.hid hv6
              clear hv6 hb6
              refine hK.out _ _ ?_ (fun hHeld => ?_)
              · exact HSH.out _ C6.out
              clear hK K
              try simp only [Act.put, List.getElem_toArray, List.getElem_cons_succ, List.getElem_cons_zero, List.setIfInBounds_toArray, List.set_cons_zero, List.set_cons_succ]
              refine wpAnyH_take (i := 14) (v := ?_) rfl (by kernel_rfl) (by kernel_rfl) (by kernel_rfl) (fun _ _ _ h => h) (Or.inl ⟨by kernel_rfl, ?_⟩) (by assumption) ?_
              rotate_left
              · (intro wx hSw; (try dsimp only at hSw); go_simp; try (with_reducible rfl))
              try simp only [Act.put, List.getElem_toArray, List.getElem_cons_succ, List.getElem_cons_zero, List.setIfInBounds_toArray, List.set_cons_zero, List.set_cons_succ]
              refine wpAnyH_take (i := 15) (v := ?_) rfl (by kernel_rfl) (by kernel_rfl) (by kernel_rfl) (fun _ _ _ h => h) (Or.inl ⟨by kernel_rfl, ?_⟩) (by assumption) ?_
              rotate_left
              · (intro wx hSw; (try dsimp only at hSw); go_simp; try (with_reducible rfl))
              try simp only [Act.put, List.getElem_toArray, List.getElem_cons_succ, List.getElem_cons_zero, List.setIfInBounds_toArray, List.set_cons_zero, List.set_cons_succ]
              refine wpAnyH_take (i := 16) (v := ?_) rfl (by kernel_rfl) (by kernel_rfl) (by kernel_rfl) (fun _ _ _ h => h) (Or.inl ⟨by kernel_rfl, ?_⟩) (by assumption) ?_
              rotate_left
              · (intro wx hSw; (try dsimp only at hSw); go_simp; try (with_reducible rfl))
              try simp only [Act.put, List.getElem_toArray, List.getElem_cons_succ, List.getElem_cons_zero, List.setIfInBounds_toArray, List.set_cons_zero, List.set_cons_succ]
              refine wpAnyH_ready (rs := [17]) (by kernel_rfl) (by simp) ?_
              refine AllReadyH.cons rfl (fun K hK => ?_) AllReadyH.nil
              go_simp
              refine hK.out _ _ ?_ (fun hHeld => ?_)
              · exact HSH.out _ (Bl.alloc_ C6.out _)
              clear hK K
              try simp only [Act.put, List.getElem_toArray, List.getElem_cons_succ, List.getElem_cons_zero, List.setIfInBounds_toArray, List.set_cons_zero, List.set_cons_succ]
              refine wpAnyH_ready (rs := [18]) (by kernel_rfl) (by simp) ?_
              refine AllReadyH.cons rfl (fun K hK => ?_) AllReadyH.nil
              go_simp
              refine hK.out _ _ ?_ (fun hHeld => ?_)
              · exact HSH.out _ (by first | exact Bl.alloc_ C6.out _ | exact Bl.set_ (Bl.set_ (Bl.alloc_ C6.out _) C6.out.size _) C6.out.size _)
              clear hK K
              try simp only [Act.put, List.getElem_toArray, List.getElem_cons_succ, List.getElem_cons_zero, List.setIfInBounds_toArray, List.set_cons_zero, List.set_cons_succ]
              refine wpAnyH_take (i := 19) (v := ?_) rfl (by kernel_rfl) (by kernel_rfl) (by kernel_rfl) (fun _ _ _ h => h) (Or.inl ⟨by kernel_rfl, ?_⟩) (by assumption) ?_
              rotate_left
              · (intro wx hSw; (try dsimp only at hSw); go_simp; try (with_reducible rfl))
              try simp only [Act.put, List.getElem_toArray, List.getElem_cons_succ, List.getElem_cons_zero, List.setIfInBounds_toArray, List.set_cons_zero, List.set_cons_succ]
              refine wpAnyH_done (by kernel_rfl) ?_ _
              go_wp2_with fail
              go_meet
              have hA : ArcsAt w6 w6.heap.size A6 (restL x y L) := by
                obtain ⟨A7, c7, e7, h7, -⟩ := O6.out.shape
                injection e7 with e8 e9 e10
                rw [e8]
                exact h7
              exact ⟨w6.heap.size, A6, _, c6, rfl, rfl, rfl, O6.out.cap_, (O6.out.caps _ _ _ rfl).2, Two.new _ _ _, hA.bl (Bl.alloc_ (Bl.refl _) _), Bl.alloc_ C6.out _⟩
            · go_simp
              refine hK.out _ _ ?_ (fun hHeld => ?_)
              · exact HSH.out _ (by first | exact Bl.drew_ (Bl.alloc_ (Bl.refl wo) _) | exact Bl.alloc_ (Bl.drew_ (Bl.refl wo)) _)
              clear hK K
              try simp only [Act.put, List.getElem_toArray, List.getElem_cons_succ, List.getElem_cons_zero, List.setIfInBounds_toArray, List.set_cons_zero, List.set_cons_succ]
              generalize hw : World.drew (World.alloc _ _) = w_1
              have C1 := Lib.hid (show Bl wo w_1 from by rw [← hw]; exact Bl.drew_ (Bl.alloc_ (Bl.refl wo) _))
              have D1 := Lib.hid (show Two w_1 wo.heap.size (.int .i64 0) (.slice none 0 0) from by rw [← hw]; exact (Two.new wo _ _).bl (Bl.drew_ (Bl.refl _)))
              have s1 : wo.heap.size < w_1.heap.size := by rw [← hw]; simp
              clear hw hHeld
              refine wpAnyH_ready (rs := [13]) (by kernel_rfl) (by simp) ?_
              refine AllReadyH.cons rfl (fun K hK => ?_) AllReadyH.nil
              go_simp
              refine (implWeighedW_any N x y 0 _ l c' L HL.out hlc HCC.out _ (by omega) (A5.out.bl (HBL.out.trans_ C1.out))).mono ?_
              rintro e w6 ⟨v6, he6, hv6, hb6⟩
              rw [weighedB0 HO.out, HP.out, if_pos rfl] at he6 hv6
              rw [weighed0] at hv6
              subst he6
              obtain ⟨A6, c6, rfl, -, -⟩ := hv6.shape
              try (go_wp2_with fail)
              have C6 := Lib.hid (C1.out.trans_ hb6)
              have D6 := Lib.hid (D1.out.bl hb6)
              obtain ⟨d0, d1, f0, f1⟩ := D6.out.facts
              have O6 := Lib.hid hv6
              have s6 := hb6.size
              have s7 : wo.heap.size < w6.heap.size := by omega
              clear hv6 hb6
              refine hK.out _ _ ?_ (fun hHeld => ?_)
              · exact HSH.out _ C6.out
              clear hK K
              try simp only [Act.put, List.getElem_toArray, List.getElem_cons_succ, List.getElem_cons_zero, List.setIfInBounds_toArray, List.set_cons_zero, List.set_cons_succ]
              refine wpAnyH_take (i := 14) (v := ?_) rfl (by kernel_rfl) (by kernel_rfl) (by kernel_rfl) (fun _ _ _ h => h) (Or.inl ⟨by kernel_rfl, ?_⟩) (by assumption) ?_
              rotate_left
              · (intro wx hSw; (try dsimp only at hSw); go_simp; try (with_reducible rfl))
              try simp only [Act.put, List.getElem_toArray, List.getElem_cons_succ, List.getElem_cons_zero, List.setIfInBounds_toArray, List.set_cons_zero, List.set_cons_succ]
              refine wpAnyH_take (i := 15) (v := ?_) rfl (by kernel_rfl) (by kernel_rfl) (by kernel_rfl) (fun _ _ _ h => h) (Or.inl ⟨by kernel_rfl, ?_⟩) (by assumption) ?_
              rotate_left
              · (intro wx hSw; (try dsimp only at hSw); go_simp; try (with_reducible rfl))
              try simp only [Act.put, List.getElem_toArray, List.getElem_cons_succ, List.getElem_cons_zero, List.setIfInBounds_toArray, List.set_cons_zero, List.set_cons_succ]
              refine wpAnyH_take (i := 16) (v := ?_) rfl (by kernel_rfl) (by kernel_rfl) (by kernel_rfl) (fun _ _ _ h => h) (Or.inl ⟨by kernel_rfl, ?_⟩) (by assumption) ?_
              rotate_left
              · (intro wx hSw; (try dsimp only at hSw); go_simp; try (with_reducible rfl))
              try simp only [Act.put, List.getElem_toArray, List.getElem_cons_succ, List.getElem_cons_zero, List.setIfInBounds_toArray, List.set_cons_zero, List.set_cons_succ]
              refine wpAnyH_ready (rs := [18]) (by kernel_rfl) (by simp) ?_
              refine AllReadyH.cons rfl (fun K hK => ?_) AllReadyH.nil
              go_simp
              refine hK.out _ _ ?_ (fun hHeld => ?_)
              · exact HSH.out _ (Bl.set_ (Bl.set_ C6.out (Nat.le_refl _) _) (Nat.le_refl _) _)
              clear hK K
              try simp only [Act.put, List.getElem_toArray, List.getElem_cons_succ, List.getElem_cons_zero, List.setIfInBounds_toArray, List.set_cons_zero, List.set_cons_succ]
              refine wpAnyH_take (i := 19) (v := ?_) rfl (by kernel_rfl) (by kernel_rfl) (by kernel_rfl) (fun _ _ _ h => h) (Or.inl ⟨by kernel_rfl, ?_⟩) (by assumption) ?_
              rotate_left
              · (intro wx hSw; (try dsimp only at hSw); go_simp; try (with_reducible rfl))
              try simp only [Act.put, List.getElem_toArray, List.getElem_cons_succ, List.getElem_cons_zero, List.setIfInBounds_toArray, List.set_cons_zero, List.set_cons_succ]
              refine wpAnyH_done (by kernel_rfl) ?_ _
              go_wp2_with fail
              go_meet
              have O7 := OwnA.set_ (OwnA.set_ O6.out (p := ⟨wo.heap.size, 0, none⟩) s1 (.int .i64 N)) (p := ⟨wo.heap.size, 1, none⟩) s1 (.slice A6 (restL x y L).length c6)
              have hA : ArcsAt ((w6.setCell ⟨wo.heap.size, 0, none⟩ (.int .i64 N)).setCell ⟨wo.heap.size, 1, none⟩ (.slice A6 (restL x y L).length c6)) ((w6.setCell ⟨wo.heap.size, 0, none⟩ (.int .i64 N)).setCell ⟨wo.heap.size, 1, none⟩ (.slice A6 (restL x y L).length c6)).heap.size A6 (restL x y L) := by
                obtain ⟨A7, c7, e7, h7, -⟩ := O7.shape
                injection e7 with e8 e9 e10
                rw [e8] at h7 ⊢
                exact h7
              exact ⟨wo.heap.size, A6, _, c6, rfl, rfl, rfl, O6.out.cap_, (O6.out.caps _ _ _ rfl).2, (D6.out.set0 _).set1 _, hA, Bl.set_ (Bl.set_ C6.out (Nat.le_refl _) _) (Nat.le_refl _) _⟩
          case rest =>
            obtain ⟨bb, A6, m6, c6, rfl, rfl, hm6, hmc, hcx, hTW, hA6, hbc⟩ := hcut
            have HM6 := Lib.hid hm6
            have HTW := Lib.hid hTW
            have HA6 := Lib.hid hA6
            have HBC := Lib.hid hbc
            have hbb := World.rowIs.lt hTW
            obtain ⟨h0, h1, -, -⟩ := hTW.facts
            have hm200 : m6 ≤ 1048576 := by
              rw [hm6]
              have : (restL x y L).length ≤ L.length := by unfold restL; exact List.length_filter_le _ _
              have := HL.out
              omega
            clear p1 p2 hm6 hTW hA6 hbc q0 q1
            go_wp2_with fail
            refine (implDistOf_any N s t A6 m6 c6 (restL x y L) HM6.out hmc _ hm200 HA6.out).mono ?_
            rintro e w7 ⟨rfl, hb7⟩
            have HB7 := Lib.hid (HBC.out.trans_ hb7)
            have T7 := Lib.hid (HTW.out.bl hb7)
            have HA7 := Lib.hid (HA6.out.bl hb7)
            clear h0 h1
            obtain ⟨h0, h1, -, -⟩ := T7.out.facts
            obtain ⟨d', hd'⟩ : ∃ d', d' = distOfI N (restL x y L) s t := ⟨_, rfl⟩
            have HD' := Lib.hid hd'
            rw [← hd']
            clear hb7 hd'
            by_cases hdd : d' = d
            · have bd : (d' != d) = false := by simpa using hdd
              have MO := Lib.hid (show ∀ a ∈ V, memB (vitL N (restL x y L) s t) a.1 a.2.1 a.2.2 (vitL N (restL x y L) s t).length = true from fun a ha => MORE.out a ha x y (by rw [← HD'.out, hdd, HD.out]))
              clear hdd
              go_wp2_with fail
              refine (implVital_any N s t A6 m6 c6 (restL x y L) HM6.out hmc hcx _ hm200 HA7.out).mono ?_
              rintro e w8 ⟨v8, rfl, hv8, hb8⟩
              obtain ⟨M, hM⟩ : ∃ M, M = vitL N (restL x y L) s t := ⟨_, rfl⟩
              have hml : (vitL N (restL x y L) s t).length ≤ 150 := vitL_len
              rw [← hM] at hv8 MO hml
              obtain ⟨A8, c8, rfl, hi8, -⟩ := hv8.shape
              obtain ⟨mm, hmm⟩ : ∃ mm, mm = M.length := ⟨_, rfl⟩
              rw [← hmm] at hml MO ⊢
              have HMM := Lib.hid hmm
              have I8 := Lib.hid hi8
              have HB8 := Lib.hid (HB7.out.trans_ hb8)
              have V8 := Lib.hid ((V5.out.bl HBL.out).bl HB8.out)
              clear hv8 hi8 hb8 h0 h1 bd hM hmm
              go_wp2_with fail
              go_loopw [12] (fun kv wr => ∃ j : Nat, j ≤ k ∧ kv = .int .i64 j ∧ Bl w8 wr) (fun kv _ => k - (intOf kv).toNat)
              case atStart => exact ⟨0, by omega, rfl, Bl.refl _⟩
              case round =>
                obtain ⟨wp, rfl⟩ : ∃ wp : World, wp = wr := ⟨_, rfl⟩
                obtain ⟨j, hj, rfl, hbj⟩ := hrel
                have HBJ := Lib.hid hbj
                by_cases hlj : j < k
                · have hjl : j < V.length := by have := HK.out; omega
                  obtain ⟨gB, oB, rfl, hgB, hcB⟩ := (V8.out.bl hbj) (by omega)
                  obtain ⟨y1, y2, y3⟩ := hcB j hjl
                  have MM := Lib.hid (MO.out V[j] (List.getElem_mem hjl))
                  clear hcB
                  generalize V[j].1 = a1 at *
                  generalize V[j].2.1 = a2 at *
                  generalize V[j].2.2 = a3 at *
                  have j0 : (0 : Int) ≤ (j : Int) := by omega
                  have j1 : (j : Int) < (k : Int) := by omega
                  go_wp2_with fail
                  go_loopw [13, 14] (fun tv fv wr => ∃ f : Nat, f ≤ mm ∧ fv = .int .i64 f ∧ tv = .bool (memB M a1 a2 a3 f) ∧ Bl wp wr) (fun _ fv _ => mm - (intOf fv).toNat)
                  case atStart => exact ⟨0, by omega, rfl, rfl, Bl.refl _⟩
                  case round =>
                    obtain ⟨f, hf, rfl, rfl, hbf⟩ := hrel
                    have HBF := Lib.hid hbf
                    by_cases hlf : f < mm
                    · have hfl : f < M.length := by have := HMM.out; omega
                      obtain ⟨gC, oC, rfl, hgC, hcC⟩ := (I8.out.bl (HBJ.out.trans_ hbf)) (by omega)
                      obtain ⟨z1, z2, z3⟩ := hcC f hfl
                      have MS := Lib.hid (memB_succ M a1 a2 a3 f)
                      rw [show M.getD f (0, 0, 0) = M[f] from by simp [hfl]] at MS
                      clear hcC
                      generalize M[f].1 = b1 at *
                      generalize M[f].2.1 = b2 at *
                      generalize M[f].2.2 = b3 at *
                      have f0 : (0 : Int) ≤ (f : Int) := by omega
                      have f1 : (f : Int) < (mm : Int) := by omega
                      have gB' : gB < wr.heap.size := by have := hbf.size; omega
                      have x1 := ((bcell hbf).1 _ _ hgB).trans y1
                      have x2 := ((bcell hbf).1 _ _ hgB).trans y2
                      have x3 := ((bcell hbf).1 _ _ hgB).trans y3
                      have HSX := Lib.hid (show ∀ wx, Bl wr wx → Bl wr wx ∧ wx.cell? ⟨gC, oC + f * 3, none⟩ = some (.int .i64 b1) ∧ wx.cell? ⟨gC, oC + f * 3 + 1, none⟩ = some (.int .i64 b2) ∧ wx.cell? ⟨gC, oC + f * 3 + 2, none⟩ = some (.int .i64 b3) ∧ wx.cell? ⟨gB, oB + j * 3, none⟩ = some (.int .i64 a1) ∧ wx.cell? ⟨gB, oB + j * 3 + 1, none⟩ = some (.int .i64 a2) ∧ wx.cell? ⟨gB, oB + j * 3 + 2, none⟩ = some (.int .i64 a3) from fun wx hb => by
                        have hh := (bcell hb).1
                        rw [hh _ _ hgC, hh _ _ hgC, hh _ _ hgC, hh _ _ gB', hh _ _ gB', hh _ _ gB']
                        exact ⟨hb, z1, z2, z3, x1, x2, x3⟩)
                      clear z1 z2 z3 x1 x2 x3
                      obtain ⟨th, hth⟩ : ∃ th, th = memB M a1 a2 a3 f := ⟨_, rfl⟩
                      rw [← hth] at MS ⊢
                      clear hth
                      cases th with
                      | true =>
                        have MS' := Lib.hid (show memB M a1 a2 a3 (f + 1) = true from by rw [MS.out]; rfl)
                        go_wp2_with fail
                        refine wp_region_held_drew (S := fun wx => Bl wr wx ∧ wx.cell? ⟨gC, oC + f * 3, none⟩ = some (.int .i64 b1) ∧ wx.cell? ⟨gC, oC + f * 3 + 1, none⟩ = some (.int .i64 b2) ∧ wx.cell? ⟨gC, oC + f * 3 + 2, none⟩ = some (.int .i64 b3) ∧ wx.cell? ⟨gB, oB + j * 3, none⟩ = some (.int .i64 a1) ∧ wx.cell? ⟨gB, oB + j * 3 + 1, none⟩ = some (.int .i64 a2) ∧ wx.cell? ⟨gB, oB + j * 3 + 2, none⟩ = some (.int .i64 a3)) (by kernel_rfl) ?_ (fun hHeld => ?_)
                        · (exact HSX.out _ (by repeat' (first | exact Bl.refl _ | with_reducible assumption | with_reducible refine Bl.drew_ ?_ | with_reducible refine Bl.drewN_ ?_ _ | with_reducible refine Bl.alloc_ ?_ _ | with_reducible refine Bl.trans_ ?_ (by assumption) | with_reducible refine Bl.trans_ ?_ (And.left (by assumption)))))
                        refine wpAnyH_take (i := 0) (v := ?_) rfl (by kernel_rfl) (by kernel_rfl) (by kernel_rfl) (fun _ _ _ h => h) (Or.inl ⟨by kernel_rfl, ?_⟩) (by assumption) ?_
                        rotate_left
                        · (intro wx hSw; (try dsimp only at hSw); go_simp; try (with_reducible rfl))
                        try simp only [Act.put, List.getElem_toArray, List.getElem_cons_succ, List.getElem_cons_zero, List.setIfInBounds_toArray, List.set_cons_zero, List.set_cons_succ]
                        refine wpAnyH_take (i := 1) (v := ?_) rfl (by kernel_rfl) (by kernel_rfl) (by kernel_rfl) (fun _ _ _ h => h) (Or.inl ⟨by kernel_rfl, ?_⟩) (by assumption) ?_
                        rotate_left
                        · (intro wx hSw; (try dsimp only at hSw); go_simp; try (with_reducible rfl))
                        try simp only [Act.put, List.getElem_toArray, List.getElem_cons_succ, List.getElem_cons_zero, List.setIfInBounds_toArray, List.set_cons_zero, List.set_cons_succ]
                        refine wpAnyH_take (i := 2) (v := undef) rfl (by kernel_rfl) (by kernel_rfl) (by kernel_rfl) (fun _ _ _ h => h) (Or.inr ⟨by kernel_rfl, rfl⟩) (by assumption) ?_
                        try simp only [Act.put, List.getElem_toArray, List.getElem_cons_succ, List.getElem_cons_zero, List.setIfInBounds_toArray, List.set_cons_zero, List.set_cons_succ]
                        refine wpAnyH_take (i := 3) (v := undef) rfl (by kernel_rfl) (by kernel_rfl) (by kernel_rfl) (fun _ _ _ h => h) (Or.inr ⟨by kernel_rfl, rfl⟩) (by assumption) ?_
                        try simp only [Act.put, List.getElem_toArray, List.getElem_cons_succ, List.getElem_cons_zero, List.setIfInBounds_toArray, List.set_cons_zero, List.set_cons_succ]
                        refine wpAnyH_take (i := 4) (v := undef) rfl (by kernel_rfl) (by kernel_rfl) (by kernel_rfl) (fun _ _ _ h => h) (Or.inr ⟨by kernel_rfl, rfl⟩) (by assumption) ?_
                        try simp only [Act.put, List.getElem_toArray, List.getElem_cons_succ, List.getElem_cons_zero, List.setIfInBounds_toArray, List.set_cons_zero, List.set_cons_succ]
                        refine wpAnyH_take (i := 5) (v := undef) rfl (by kernel_rfl) (by kernel_rfl) (by kernel_rfl) (fun _ _ _ h => h) (Or.inr ⟨by kernel_rfl, rfl⟩) (by assumption) ?_
                        try simp only [Act.put, List.getElem_toArray, List.getElem_cons_succ, List.getElem_cons_zero, List.setIfInBounds_toArray, List.set_cons_zero, List.set_cons_succ]
                        refine wpAnyH_take (i := 6) (v := undef) rfl (by kernel_rfl) (by kernel_rfl) (by kernel_rfl) (fun _ _ _ h => h) (Or.inr ⟨by kernel_rfl, rfl⟩) (by assumption) ?_
                        try simp only [Act.put, List.getElem_toArray, List.getElem_cons_succ, List.getElem_cons_zero, List.setIfInBounds_toArray, List.set_cons_zero, List.set_cons_succ]
                        refine wpAnyH_take (i := 7) (v := undef) rfl (by kernel_rfl) (by kernel_rfl) (by kernel_rfl) (fun _ _ _ h => h) (Or.inr ⟨by kernel_rfl, rfl⟩) (by assumption) ?_
                        try simp only [Act.put, List.getElem_toArray, List.getElem_cons_succ, List.getElem_cons_zero, List.setIfInBounds_toArray, List.set_cons_zero, List.set_cons_succ]
                        refine wpAnyH_take (i := 8) (v := undef) rfl (by kernel_rfl) (by kernel_rfl) (by kernel_rfl) (fun _ _ _ h => h) (Or.inr ⟨by kernel_rfl, rfl⟩) (by assumption) ?_
                        try simp only [Act.put, List.getElem_toArray, List.getElem_cons_succ, List.getElem_cons_zero, List.setIfInBounds_toArray, List.set_cons_zero, List.set_cons_succ]
                        refine wpAnyH_take (i := 9) (v := undef) rfl (by kernel_rfl) (by kernel_rfl) (by kernel_rfl) (fun _ _ _ h => h) (Or.inr ⟨by kernel_rfl, rfl⟩) (by assumption) ?_
                        try simp only [Act.put, List.getElem_toArray, List.getElem_cons_succ, List.getElem_cons_zero, List.setIfInBounds_toArray, List.set_cons_zero, List.set_cons_succ]
                        refine wpAnyH_take (i := 10) (v := undef) rfl (by kernel_rfl) (by kernel_rfl) (by kernel_rfl) (fun _ _ _ h => h) (Or.inr ⟨by kernel_rfl, rfl⟩) (by assumption) ?_
                        try simp only [Act.put, List.getElem_toArray, List.getElem_cons_succ, List.getElem_cons_zero, List.setIfInBounds_toArray, List.set_cons_zero, List.set_cons_succ]
                        refine wpAnyH_take (i := 11) (v := ?_) rfl (by kernel_rfl) (by kernel_rfl) (by kernel_rfl) (fun _ _ _ h => h) (Or.inl ⟨by kernel_rfl, ?_⟩) (by assumption) ?_
                        rotate_left
                        · (intro wx hSw; (try dsimp only at hSw); go_simp; try (with_reducible rfl))
                        try simp only [Act.put, List.getElem_toArray, List.getElem_cons_succ, List.getElem_cons_zero, List.setIfInBounds_toArray, List.set_cons_zero, List.set_cons_succ]
                        refine wpAnyH_take (i := 12) (v := ?_) rfl (by kernel_rfl) (by kernel_rfl) (by kernel_rfl) (fun _ _ _ h => h) (Or.inl ⟨by kernel_rfl, ?_⟩) (by assumption) ?_
                        rotate_left
                        · (intro wx hSw; (try dsimp only at hSw); go_simp; try (with_reducible rfl))
                        try simp only [Act.put, List.getElem_toArray, List.getElem_cons_succ, List.getElem_cons_zero, List.setIfInBounds_toArray, List.set_cons_zero, List.set_cons_succ]
                        refine wpAnyH_done (by kernel_rfl) ?_ _
                        go_wp2
                        go_roundw
                        case rel => exact ⟨f + 1, by omega, by go_num, by rw [MS'.out], HBF.out.trans_ (by repeat' (first | exact Bl.refl _ | with_reducible assumption | with_reducible refine Bl.drew_ ?_ | with_reducible refine Bl.drewN_ ?_ _ | with_reducible refine Bl.alloc_ ?_ _ | with_reducible refine Bl.trans_ ?_ (by assumption) | with_reducible refine Bl.trans_ ?_ (And.left (by assumption))))⟩
                        case measure => simp [intOf]; omega
                      | false =>
                        cases e1 : b1 == a1 with
                        | true =>
                          cases e2 : b2 == a2 with
                          | true =>
                            cases e3 : b3 == a3 with
                            | true =>
                              have MS' := Lib.hid (show memB M a1 a2 a3 (f + 1) = true from by rw [MS.out, e1, e2, e3]; rfl)
                              go_wp2_with fail
                              refine wp_region_held_drew (S := fun wx => Bl wr wx ∧ wx.cell? ⟨gC, oC + f * 3, none⟩ = some (.int .i64 b1) ∧ wx.cell? ⟨gC, oC + f * 3 + 1, none⟩ = some (.int .i64 b2) ∧ wx.cell? ⟨gC, oC + f * 3 + 2, none⟩ = some (.int .i64 b3) ∧ wx.cell? ⟨gB, oB + j * 3, none⟩ = some (.int .i64 a1) ∧ wx.cell? ⟨gB, oB + j * 3 + 1, none⟩ = some (.int .i64 a2) ∧ wx.cell? ⟨gB, oB + j * 3 + 2, none⟩ = some (.int .i64 a3)) (by kernel_rfl) ?_ (fun hHeld => ?_)
                              · (exact HSX.out _ (by repeat' (first | exact Bl.refl _ | with_reducible assumption | with_reducible refine Bl.drew_ ?_ | with_reducible refine Bl.drewN_ ?_ _ | with_reducible refine Bl.alloc_ ?_ _ | with_reducible refine Bl.trans_ ?_ (by assumption) | with_reducible refine Bl.trans_ ?_ (And.left (by assumption)))))
                              refine wpAnyH_take (i := 0) (v := ?_) rfl (by kernel_rfl) (by kernel_rfl) (by kernel_rfl) (fun _ _ _ h => h) (Or.inl ⟨by kernel_rfl, ?_⟩) (by assumption) ?_
                              rotate_left
                              · (intro wx hSw; (try dsimp only at hSw); go_simp; try (with_reducible rfl))
                              try simp only [Act.put, List.getElem_toArray, List.getElem_cons_succ, List.getElem_cons_zero, List.setIfInBounds_toArray, List.set_cons_zero, List.set_cons_succ]
                              refine wpAnyH_take (i := 1) (v := ?_) rfl (by kernel_rfl) (by kernel_rfl) (by kernel_rfl) (fun _ _ _ h => h) (Or.inl ⟨by kernel_rfl, ?_⟩) (by assumption) ?_
                              rotate_left
                              · (intro wx hSw; (try dsimp only at hSw); go_simp; try (with_reducible rfl))
                              try simp only [Act.put, List.getElem_toArray, List.getElem_cons_succ, List.getElem_cons_zero, List.setIfInBounds_toArray, List.set_cons_zero, List.set_cons_succ]
                              refine wpAnyH_take (i := 2) (v := ?_) rfl (by kernel_rfl) (by kernel_rfl) (by kernel_rfl) (fun _ _ _ h => h) (Or.inl ⟨by kernel_rfl, ?_⟩) (by assumption) ?_
                              rotate_left
                              · (intro wx hSw; (try dsimp only at hSw); go_simp; try (with_reducible rfl))
                              try simp only [Act.put, List.getElem_toArray, List.getElem_cons_succ, List.getElem_cons_zero, List.setIfInBounds_toArray, List.set_cons_zero, List.set_cons_succ]
                              refine wpAnyH_take (i := 3) (v := ?_) rfl (by kernel_rfl) (by kernel_rfl) (by kernel_rfl) (fun _ _ _ h => h) (Or.inl ⟨by kernel_rfl, ?_⟩) (by assumption) ?_
                              rotate_left
                              · (intro wx hSw; (try dsimp only at hSw); go_simp; try (with_reducible rfl))
                              try simp only [Act.put, List.getElem_toArray, List.getElem_cons_succ, List.getElem_cons_zero, List.setIfInBounds_toArray, List.set_cons_zero, List.set_cons_succ]
                              refine wpAnyH_take (i := 4) (v := ?_) rfl (by kernel_rfl) (by kernel_rfl) (by kernel_rfl) (fun _ _ _ h => h) (Or.inl ⟨by kernel_rfl, ?_⟩) (by assumption) ?_
                              rotate_left
                              · (intro wx hSw; (try dsimp only at hSw); go_simp; try (with_reducible rfl))
                              try simp only [Act.put, List.getElem_toArray, List.getElem_cons_succ, List.getElem_cons_zero, List.setIfInBounds_toArray, List.set_cons_zero, List.set_cons_succ]
                              refine wpAnyH_take (i := 5) (v := ?_) rfl (by kernel_rfl) (by kernel_rfl) (by kernel_rfl) (fun _ _ _ h => h) (Or.inl ⟨by kernel_rfl, ?_⟩) (by assumption) ?_
                              rotate_left
                              · (intro wx hSw; (try dsimp only at hSw); go_simp; try (with_reducible rfl))
                              try simp only [Act.put, List.getElem_toArray, List.getElem_cons_succ, List.getElem_cons_zero, List.setIfInBounds_toArray, List.set_cons_zero, List.set_cons_succ]
                              refine wpAnyH_take (i := 6) (v := ?_) rfl (by kernel_rfl) (by kernel_rfl) (by kernel_rfl) (fun _ _ _ h => h) (Or.inl ⟨by kernel_rfl, ?_⟩) (by assumption) ?_
                              rotate_left
                              · (intro wx hSw; (try dsimp only at hSw); go_simp; try (with_reducible rfl))
                              try simp only [Act.put, List.getElem_toArray, List.getElem_cons_succ, List.getElem_cons_zero, List.setIfInBounds_toArray, List.set_cons_zero, List.set_cons_succ]
                              refine wpAnyH_take (i := 7) (v := ?_) rfl (by kernel_rfl) (by kernel_rfl) (by kernel_rfl) (fun _ _ _ h => h) (Or.inl ⟨by kernel_rfl, ?_⟩) (by assumption) ?_
                              rotate_left
                              · (intro wx hSw; (try dsimp only at hSw); go_simp; try (with_reducible rfl))
                              try simp only [Act.put, List.getElem_toArray, List.getElem_cons_succ, List.getElem_cons_zero, List.setIfInBounds_toArray, List.set_cons_zero, List.set_cons_succ]
                              refine wpAnyH_take (i := 8) (v := ?_) rfl (by kernel_rfl) (by kernel_rfl) (by kernel_rfl) (fun _ _ _ h => h) (Or.inl ⟨by kernel_rfl, ?_⟩) (by assumption) ?_
                              rotate_left
                              · (intro wx hSw; (try dsimp only at hSw); go_simp; try (with_reducible rfl))
                              try simp only [Act.put, List.getElem_toArray, List.getElem_cons_succ, List.getElem_cons_zero, List.setIfInBounds_toArray, List.set_cons_zero, List.set_cons_succ]
                              refine wpAnyH_take (i := 9) (v := ?_) rfl (by kernel_rfl) (by kernel_rfl) (by kernel_rfl) (fun _ _ _ h => h) (Or.inl ⟨by kernel_rfl, ?_⟩) (by assumption) ?_
                              rotate_left
                              · (intro wx hSw; (try dsimp only at hSw); go_simp; try (with_reducible rfl))
                              try simp only [Act.put, List.getElem_toArray, List.getElem_cons_succ, List.getElem_cons_zero, List.setIfInBounds_toArray, List.set_cons_zero, List.set_cons_succ]
                              refine wpAnyH_take (i := 10) (v := ?_) rfl (by kernel_rfl) (by kernel_rfl) (by kernel_rfl) (fun _ _ _ h => h) (Or.inl ⟨by kernel_rfl, ?_⟩) (by assumption) ?_
                              rotate_left
                              · (intro wx hSw; (try dsimp only at hSw); go_simp; try (with_reducible rfl))
                              try simp only [Act.put, List.getElem_toArray, List.getElem_cons_succ, List.getElem_cons_zero, List.setIfInBounds_toArray, List.set_cons_zero, List.set_cons_succ]
                              refine wpAnyH_take (i := 11) (v := ?_) rfl (by kernel_rfl) (by kernel_rfl) (by kernel_rfl) (fun _ _ _ h => h) (Or.inl ⟨by kernel_rfl, ?_⟩) (by assumption) ?_
                              rotate_left
                              · (intro wx hSw; (try dsimp only at hSw); go_simp; try (with_reducible rfl))
                              try simp only [Act.put, List.getElem_toArray, List.getElem_cons_succ, List.getElem_cons_zero, List.setIfInBounds_toArray, List.set_cons_zero, List.set_cons_succ]
                              refine wpAnyH_take (i := 12) (v := ?_) rfl (by kernel_rfl) (by kernel_rfl) (by kernel_rfl) (fun _ _ _ h => h) (Or.inl ⟨by kernel_rfl, ?_⟩) (by assumption) ?_
                              rotate_left
                              · (intro wx hSw; (try dsimp only at hSw); go_simp; try (with_reducible rfl))
                              try simp only [Act.put, List.getElem_toArray, List.getElem_cons_succ, List.getElem_cons_zero, List.setIfInBounds_toArray, List.set_cons_zero, List.set_cons_succ]
                              refine wpAnyH_done (by kernel_rfl) ?_ _
                              go_wp2
                              go_roundw
                              case rel => exact ⟨f + 1, by omega, by go_num, by rw [MS'.out], HBF.out.trans_ (by repeat' (first | exact Bl.refl _ | with_reducible assumption | with_reducible refine Bl.drew_ ?_ | with_reducible refine Bl.drewN_ ?_ _ | with_reducible refine Bl.alloc_ ?_ _ | with_reducible refine Bl.trans_ ?_ (by assumption) | with_reducible refine Bl.trans_ ?_ (And.left (by assumption))))⟩
                              case measure => simp [intOf]; omega
                            | false =>
                              have MS' := Lib.hid (show memB M a1 a2 a3 (f + 1) = false from by rw [MS.out, e1, e2, e3]; rfl)
                              go_wp2_with fail
                              refine wp_region_held_drew (S := fun wx => Bl wr wx ∧ wx.cell? ⟨gC, oC + f * 3, none⟩ = some (.int .i64 b1) ∧ wx.cell? ⟨gC, oC + f * 3 + 1, none⟩ = some (.int .i64 b2) ∧ wx.cell? ⟨gC, oC + f * 3 + 2, none⟩ = some (.int .i64 b3) ∧ wx.cell? ⟨gB, oB + j * 3, none⟩ = some (.int .i64 a1) ∧ wx.cell? ⟨gB, oB + j * 3 + 1, none⟩ = some (.int .i64 a2) ∧ wx.cell? ⟨gB, oB + j * 3 + 2, none⟩ = some (.int .i64 a3)) (by kernel_rfl) ?_ (fun hHeld => ?_)
                              · (exact HSX.out _ (by repeat' (first | exact Bl.refl _ | with_reducible assumption | with_reducible refine Bl.drew_ ?_ | with_reducible refine Bl.drewN_ ?_ _ | with_reducible refine Bl.alloc_ ?_ _ | with_reducible refine Bl.trans_ ?_ (by assumption) | with_reducible refine Bl.trans_ ?_ (And.left (by assumption)))))
                              refine wpAnyH_take (i := 0) (v := ?_) rfl (by kernel_rfl) (by kernel_rfl) (by kernel_rfl) (fun _ _ _ h => h) (Or.inl ⟨by kernel_rfl, ?_⟩) (by assumption) ?_
                              rotate_left
                              · (intro wx hSw; (try dsimp only at hSw); go_simp; try (with_reducible rfl))
                              try simp only [Act.put, List.getElem_toArray, List.getElem_cons_succ, List.getElem_cons_zero, List.setIfInBounds_toArray, List.set_cons_zero, List.set_cons_succ]
                              refine wpAnyH_take (i := 1) (v := ?_) rfl (by kernel_rfl) (by kernel_rfl) (by kernel_rfl) (fun _ _ _ h => h) (Or.inl ⟨by kernel_rfl, ?_⟩) (by assumption) ?_
                              rotate_left
                              · (intro wx hSw; (try dsimp only at hSw); go_simp; try (with_reducible rfl))
                              try simp only [Act.put, List.getElem_toArray, List.getElem_cons_succ, List.getElem_cons_zero, List.setIfInBounds_toArray, List.set_cons_zero, List.set_cons_succ]
                              refine wpAnyH_take (i := 2) (v := ?_) rfl (by kernel_rfl) (by kernel_rfl) (by kernel_rfl) (fun _ _ _ h => h) (Or.inl ⟨by kernel_rfl, ?_⟩) (by assumption) ?_
                              rotate_left
                              · (intro wx hSw; (try dsimp only at hSw); go_simp; try (with_reducible rfl))
                              try simp only [Act.put, List.getElem_toArray, List.getElem_cons_succ, List.getElem_cons_zero, List.setIfInBounds_toArray, List.set_cons_zero, List.set_cons_succ]
                              refine wpAnyH_take (i := 3) (v := ?_) rfl (by kernel_rfl) (by kernel_rfl) (by kernel_rfl) (fun _ _ _ h => h) (Or.inl ⟨by kernel_rfl, ?_⟩) (by assumption) ?_
                              rotate_left
                              · (intro wx hSw; (try dsimp only at hSw); go_simp; try (with_reducible rfl))
                              try simp only [Act.put, List.getElem_toArray, List.getElem_cons_succ, List.getElem_cons_zero, List.setIfInBounds_toArray, List.set_cons_zero, List.set_cons_succ]
                              refine wpAnyH_take (i := 4) (v := ?_) rfl (by kernel_rfl) (by kernel_rfl) (by kernel_rfl) (fun _ _ _ h => h) (Or.inl ⟨by kernel_rfl, ?_⟩) (by assumption) ?_
                              rotate_left
                              · (intro wx hSw; (try dsimp only at hSw); go_simp; try (with_reducible rfl))
                              try simp only [Act.put, List.getElem_toArray, List.getElem_cons_succ, List.getElem_cons_zero, List.setIfInBounds_toArray, List.set_cons_zero, List.set_cons_succ]
                              refine wpAnyH_take (i := 5) (v := ?_) rfl (by kernel_rfl) (by kernel_rfl) (by kernel_rfl) (fun _ _ _ h => h) (Or.inl ⟨by kernel_rfl, ?_⟩) (by assumption) ?_
                              rotate_left
                              · (intro wx hSw; (try dsimp only at hSw); go_simp; try (with_reducible rfl))
                              try simp only [Act.put, List.getElem_toArray, List.getElem_cons_succ, List.getElem_cons_zero, List.setIfInBounds_toArray, List.set_cons_zero, List.set_cons_succ]
                              refine wpAnyH_take (i := 6) (v := ?_) rfl (by kernel_rfl) (by kernel_rfl) (by kernel_rfl) (fun _ _ _ h => h) (Or.inl ⟨by kernel_rfl, ?_⟩) (by assumption) ?_
                              rotate_left
                              · (intro wx hSw; (try dsimp only at hSw); go_simp; try (with_reducible rfl))
                              try simp only [Act.put, List.getElem_toArray, List.getElem_cons_succ, List.getElem_cons_zero, List.setIfInBounds_toArray, List.set_cons_zero, List.set_cons_succ]
                              refine wpAnyH_take (i := 7) (v := ?_) rfl (by kernel_rfl) (by kernel_rfl) (by kernel_rfl) (fun _ _ _ h => h) (Or.inl ⟨by kernel_rfl, ?_⟩) (by assumption) ?_
                              rotate_left
                              · (intro wx hSw; (try dsimp only at hSw); go_simp; try (with_reducible rfl))
                              try simp only [Act.put, List.getElem_toArray, List.getElem_cons_succ, List.getElem_cons_zero, List.setIfInBounds_toArray, List.set_cons_zero, List.set_cons_succ]
                              refine wpAnyH_take (i := 8) (v := ?_) rfl (by kernel_rfl) (by kernel_rfl) (by kernel_rfl) (fun _ _ _ h => h) (Or.inl ⟨by kernel_rfl, ?_⟩) (by assumption) ?_
                              rotate_left
                              · (intro wx hSw; (try dsimp only at hSw); go_simp; try (with_reducible rfl))
                              try simp only [Act.put, List.getElem_toArray, List.getElem_cons_succ, List.getElem_cons_zero, List.setIfInBounds_toArray, List.set_cons_zero, List.set_cons_succ]
                              refine wpAnyH_take (i := 9) (v := ?_) rfl (by kernel_rfl) (by kernel_rfl) (by kernel_rfl) (fun _ _ _ h => h) (Or.inl ⟨by kernel_rfl, ?_⟩) (by assumption) ?_
                              rotate_left
                              · (intro wx hSw; (try dsimp only at hSw); go_simp; try (with_reducible rfl))
                              try simp only [Act.put, List.getElem_toArray, List.getElem_cons_succ, List.getElem_cons_zero, List.setIfInBounds_toArray, List.set_cons_zero, List.set_cons_succ]
                              refine wpAnyH_take (i := 10) (v := ?_) rfl (by kernel_rfl) (by kernel_rfl) (by kernel_rfl) (fun _ _ _ h => h) (Or.inl ⟨by kernel_rfl, ?_⟩) (by assumption) ?_
                              rotate_left
                              · (intro wx hSw; (try dsimp only at hSw); go_simp; try (with_reducible rfl))
                              try simp only [Act.put, List.getElem_toArray, List.getElem_cons_succ, List.getElem_cons_zero, List.setIfInBounds_toArray, List.set_cons_zero, List.set_cons_succ]
                              refine wpAnyH_take (i := 11) (v := ?_) rfl (by kernel_rfl) (by kernel_rfl) (by kernel_rfl) (fun _ _ _ h => h) (Or.inl ⟨by kernel_rfl, ?_⟩) (by assumption) ?_
                              rotate_left
                              · (intro wx hSw; (try dsimp only at hSw); go_simp; try (with_reducible rfl))
                              try simp only [Act.put, List.getElem_toArray, List.getElem_cons_succ, List.getElem_cons_zero, List.setIfInBounds_toArray, List.set_cons_zero, List.set_cons_succ]
                              refine wpAnyH_take (i := 12) (v := ?_) rfl (by kernel_rfl) (by kernel_rfl) (by kernel_rfl) (fun _ _ _ h => h) (Or.inl ⟨by kernel_rfl, ?_⟩) (by assumption) ?_
                              rotate_left
                              · (intro wx hSw; (try dsimp only at hSw); go_simp; try (with_reducible rfl))
                              try simp only [Act.put, List.getElem_toArray, List.getElem_cons_succ, List.getElem_cons_zero, List.setIfInBounds_toArray, List.set_cons_zero, List.set_cons_succ]
                              refine wpAnyH_done (by kernel_rfl) ?_ _
                              go_wp2
                              go_roundw
                              case rel => exact ⟨f + 1, by omega, by go_num, by rw [MS'.out], HBF.out.trans_ (by repeat' (first | exact Bl.refl _ | with_reducible assumption | with_reducible refine Bl.drew_ ?_ | with_reducible refine Bl.drewN_ ?_ _ | with_reducible refine Bl.alloc_ ?_ _ | with_reducible refine Bl.trans_ ?_ (by assumption) | with_reducible refine Bl.trans_ ?_ (And.left (by assumption))))⟩
                              case measure => simp [intOf]; omega
                          | false =>
                            have MS' := Lib.hid (show memB M a1 a2 a3 (f + 1) = false from by rw [MS.out, e1, e2]; rfl)
                            go_wp2_with fail
                            refine wp_region_held_drew (S := fun wx => Bl wr wx ∧ wx.cell? ⟨gC, oC + f * 3, none⟩ = some (.int .i64 b1) ∧ wx.cell? ⟨gC, oC + f * 3 + 1, none⟩ = some (.int .i64 b2) ∧ wx.cell? ⟨gC, oC + f * 3 + 2, none⟩ = some (.int .i64 b3) ∧ wx.cell? ⟨gB, oB + j * 3, none⟩ = some (.int .i64 a1) ∧ wx.cell? ⟨gB, oB + j * 3 + 1, none⟩ = some (.int .i64 a2) ∧ wx.cell? ⟨gB, oB + j * 3 + 2, none⟩ = some (.int .i64 a3)) (by kernel_rfl) ?_ (fun hHeld => ?_)
                            · (exact HSX.out _ (by repeat' (first | exact Bl.refl _ | with_reducible assumption | with_reducible refine Bl.drew_ ?_ | with_reducible refine Bl.drewN_ ?_ _ | with_reducible refine Bl.alloc_ ?_ _ | with_reducible refine Bl.trans_ ?_ (by assumption) | with_reducible refine Bl.trans_ ?_ (And.left (by assumption)))))
                            refine wpAnyH_take (i := 0) (v := ?_) rfl (by kernel_rfl) (by kernel_rfl) (by kernel_rfl) (fun _ _ _ h => h) (Or.inl ⟨by kernel_rfl, ?_⟩) (by assumption) ?_
                            rotate_left
                            · (intro wx hSw; (try dsimp only at hSw); go_simp; try (with_reducible rfl))
                            try simp only [Act.put, List.getElem_toArray, List.getElem_cons_succ, List.getElem_cons_zero, List.setIfInBounds_toArray, List.set_cons_zero, List.set_cons_succ]
                            refine wpAnyH_take (i := 1) (v := ?_) rfl (by kernel_rfl) (by kernel_rfl) (by kernel_rfl) (fun _ _ _ h => h) (Or.inl ⟨by kernel_rfl, ?_⟩) (by assumption) ?_
                            rotate_left
                            · (intro wx hSw; (try dsimp only at hSw); go_simp; try (with_reducible rfl))
                            try simp only [Act.put, List.getElem_toArray, List.getElem_cons_succ, List.getElem_cons_zero, List.setIfInBounds_toArray, List.set_cons_zero, List.set_cons_succ]
                            refine wpAnyH_take (i := 2) (v := ?_) rfl (by kernel_rfl) (by kernel_rfl) (by kernel_rfl) (fun _ _ _ h => h) (Or.inl ⟨by kernel_rfl, ?_⟩) (by assumption) ?_
                            rotate_left
                            · (intro wx hSw; (try dsimp only at hSw); go_simp; try (with_reducible rfl))
                            try simp only [Act.put, List.getElem_toArray, List.getElem_cons_succ, List.getElem_cons_zero, List.setIfInBounds_toArray, List.set_cons_zero, List.set_cons_succ]
                            refine wpAnyH_take (i := 3) (v := ?_) rfl (by kernel_rfl) (by kernel_rfl) (by kernel_rfl) (fun _ _ _ h => h) (Or.inl ⟨by kernel_rfl, ?_⟩) (by assumption) ?_
                            rotate_left
                            · (intro wx hSw; (try dsimp only at hSw); go_simp; try (with_reducible rfl))
                            try simp only [Act.put, List.getElem_toArray, List.getElem_cons_succ, List.getElem_cons_zero, List.setIfInBounds_toArray, List.set_cons_zero, List.set_cons_succ]
                            refine wpAnyH_take (i := 4) (v := ?_) rfl (by kernel_rfl) (by kernel_rfl) (by kernel_rfl) (fun _ _ _ h => h) (Or.inl ⟨by kernel_rfl, ?_⟩) (by assumption) ?_
                            rotate_left
                            · (intro wx hSw; (try dsimp only at hSw); go_simp; try (with_reducible rfl))
                            try simp only [Act.put, List.getElem_toArray, List.getElem_cons_succ, List.getElem_cons_zero, List.setIfInBounds_toArray, List.set_cons_zero, List.set_cons_succ]
                            refine wpAnyH_take (i := 5) (v := ?_) rfl (by kernel_rfl) (by kernel_rfl) (by kernel_rfl) (fun _ _ _ h => h) (Or.inl ⟨by kernel_rfl, ?_⟩) (by assumption) ?_
                            rotate_left
                            · (intro wx hSw; (try dsimp only at hSw); go_simp; try (with_reducible rfl))
                            try simp only [Act.put, List.getElem_toArray, List.getElem_cons_succ, List.getElem_cons_zero, List.setIfInBounds_toArray, List.set_cons_zero, List.set_cons_succ]
                            refine wpAnyH_take (i := 6) (v := ?_) rfl (by kernel_rfl) (by kernel_rfl) (by kernel_rfl) (fun _ _ _ h => h) (Or.inl ⟨by kernel_rfl, ?_⟩) (by assumption) ?_
                            rotate_left
                            · (intro wx hSw; (try dsimp only at hSw); go_simp; try (with_reducible rfl))
                            try simp only [Act.put, List.getElem_toArray, List.getElem_cons_succ, List.getElem_cons_zero, List.setIfInBounds_toArray, List.set_cons_zero, List.set_cons_succ]
                            refine wpAnyH_take (i := 7) (v := ?_) rfl (by kernel_rfl) (by kernel_rfl) (by kernel_rfl) (fun _ _ _ h => h) (Or.inl ⟨by kernel_rfl, ?_⟩) (by assumption) ?_
                            rotate_left
                            · (intro wx hSw; (try dsimp only at hSw); go_simp; try (with_reducible rfl))
                            try simp only [Act.put, List.getElem_toArray, List.getElem_cons_succ, List.getElem_cons_zero, List.setIfInBounds_toArray, List.set_cons_zero, List.set_cons_succ]
                            refine wpAnyH_take (i := 8) (v := ?_) rfl (by kernel_rfl) (by kernel_rfl) (by kernel_rfl) (fun _ _ _ h => h) (Or.inl ⟨by kernel_rfl, ?_⟩) (by assumption) ?_
                            rotate_left
                            · (intro wx hSw; (try dsimp only at hSw); go_simp; try (with_reducible rfl))
                            try simp only [Act.put, List.getElem_toArray, List.getElem_cons_succ, List.getElem_cons_zero, List.setIfInBounds_toArray, List.set_cons_zero, List.set_cons_succ]
                            refine wpAnyH_take (i := 9) (v := ?_) rfl (by kernel_rfl) (by kernel_rfl) (by kernel_rfl) (fun _ _ _ h => h) (Or.inl ⟨by kernel_rfl, ?_⟩) (by assumption) ?_
                            rotate_left
                            · (intro wx hSw; (try dsimp only at hSw); go_simp; try (with_reducible rfl))
                            try simp only [Act.put, List.getElem_toArray, List.getElem_cons_succ, List.getElem_cons_zero, List.setIfInBounds_toArray, List.set_cons_zero, List.set_cons_succ]
                            refine wpAnyH_take (i := 10) (v := ?_) rfl (by kernel_rfl) (by kernel_rfl) (by kernel_rfl) (fun _ _ _ h => h) (Or.inl ⟨by kernel_rfl, ?_⟩) (by assumption) ?_
                            rotate_left
                            · (intro wx hSw; (try dsimp only at hSw); go_simp; try (with_reducible rfl))
                            try simp only [Act.put, List.getElem_toArray, List.getElem_cons_succ, List.getElem_cons_zero, List.setIfInBounds_toArray, List.set_cons_zero, List.set_cons_succ]
                            refine wpAnyH_take (i := 11) (v := ?_) rfl (by kernel_rfl) (by kernel_rfl) (by kernel_rfl) (fun _ _ _ h => h) (Or.inl ⟨by kernel_rfl, ?_⟩) (by assumption) ?_
                            rotate_left
                            · (intro wx hSw; (try dsimp only at hSw); go_simp; try (with_reducible rfl))
                            try simp only [Act.put, List.getElem_toArray, List.getElem_cons_succ, List.getElem_cons_zero, List.setIfInBounds_toArray, List.set_cons_zero, List.set_cons_succ]
                            refine wpAnyH_take (i := 12) (v := ?_) rfl (by kernel_rfl) (by kernel_rfl) (by kernel_rfl) (fun _ _ _ h => h) (Or.inl ⟨by kernel_rfl, ?_⟩) (by assumption) ?_
                            rotate_left
                            · (intro wx hSw; (try dsimp only at hSw); go_simp; try (with_reducible rfl))
                            try simp only [Act.put, List.getElem_toArray, List.getElem_cons_succ, List.getElem_cons_zero, List.setIfInBounds_toArray, List.set_cons_zero, List.set_cons_succ]
                            refine wpAnyH_done (by kernel_rfl) ?_ _
                            go_wp2
                            go_roundw
                            case rel => exact ⟨f + 1, by omega, by go_num, by rw [MS'.out], HBF.out.trans_ (by repeat' (first | exact Bl.refl _ | with_reducible assumption | with_reducible refine Bl.drew_ ?_ | with_reducible refine Bl.drewN_ ?_ _ | with_reducible refine Bl.alloc_ ?_ _ | with_reducible refine Bl.trans_ ?_ (by assumption) | with_reducible refine Bl.trans_ ?_ (And.left (by assumption))))⟩
                            case measure => simp [intOf]; omega
                        | false =>
                          have MS' := Lib.hid (show memB M a1 a2 a3 (f + 1) = false from by rw [MS.out, e1]; rfl)
                          go_wp2_with fail
                          refine wp_region_held_drew (S := fun wx => Bl wr wx ∧ wx.cell? ⟨gC, oC + f * 3, none⟩ = some (.int .i64 b1) ∧ wx.cell? ⟨gC, oC + f * 3 + 1, none⟩ = some (.int .i64 b2) ∧ wx.cell? ⟨gC, oC + f * 3 + 2, none⟩ = some (.int .i64 b3) ∧ wx.cell? ⟨gB, oB + j * 3, none⟩ = some (.int .i64 a1) ∧ wx.cell? ⟨gB, oB + j * 3 + 1, none⟩ = some (.int .i64 a2) ∧ wx.cell? ⟨gB, oB + j * 3 + 2, none⟩ = some (.int .i64 a3)) (by kernel_rfl) ?_ (fun hHeld => ?_)
                          · (exact HSX.out _ (by repeat' (first | exact Bl.refl _ | with_reducible assumption | with_reducible refine Bl.drew_ ?_ | with_reducible refine Bl.drewN_ ?_ _ | with_reducible refine Bl.alloc_ ?_ _ | with_reducible refine Bl.trans_ ?_ (by assumption) | with_reducible refine Bl.trans_ ?_ (And.left (by assumption)))))
                          refine wpAnyH_take (i := 0) (v := ?_) rfl (by kernel_rfl) (by kernel_rfl) (by kernel_rfl) (fun _ _ _ h => h) (Or.inl ⟨by kernel_rfl, ?_⟩) (by assumption) ?_
                          rotate_left
                          · (intro wx hSw; (try dsimp only at hSw); go_simp; try (with_reducible rfl))
                          try simp only [Act.put, List.getElem_toArray, List.getElem_cons_succ, List.getElem_cons_zero, List.setIfInBounds_toArray, List.set_cons_zero, List.set_cons_succ]
                          refine wpAnyH_take (i := 1) (v := ?_) rfl (by kernel_rfl) (by kernel_rfl) (by kernel_rfl) (fun _ _ _ h => h) (Or.inl ⟨by kernel_rfl, ?_⟩) (by assumption) ?_
                          rotate_left
                          · (intro wx hSw; (try dsimp only at hSw); go_simp; try (with_reducible rfl))
                          try simp only [Act.put, List.getElem_toArray, List.getElem_cons_succ, List.getElem_cons_zero, List.setIfInBounds_toArray, List.set_cons_zero, List.set_cons_succ]
                          refine wpAnyH_take (i := 2) (v := ?_) rfl (by kernel_rfl) (by kernel_rfl) (by kernel_rfl) (fun _ _ _ h => h) (Or.inl ⟨by kernel_rfl, ?_⟩) (by assumption) ?_
                          rotate_left
                          · (intro wx hSw; (try dsimp only at hSw); go_simp; try (with_reducible rfl))
                          try simp only [Act.put, List.getElem_toArray, List.getElem_cons_succ, List.getElem_cons_zero, List.setIfInBounds_toArray, List.set_cons_zero, List.set_cons_succ]
                          refine wpAnyH_take (i := 3) (v := ?_) rfl (by kernel_rfl) (by kernel_rfl) (by kernel_rfl) (fun _ _ _ h => h) (Or.inl ⟨by kernel_rfl, ?_⟩) (by assumption) ?_
                          rotate_left
                          · (intro wx hSw; (try dsimp only at hSw); go_simp; try (with_reducible rfl))
                          try simp only [Act.put, List.getElem_toArray, List.getElem_cons_succ, List.getElem_cons_zero, List.setIfInBounds_toArray, List.set_cons_zero, List.set_cons_succ]
                          refine wpAnyH_take (i := 4) (v := ?_) rfl (by kernel_rfl) (by kernel_rfl) (by kernel_rfl) (fun _ _ _ h => h) (Or.inl ⟨by kernel_rfl, ?_⟩) (by assumption) ?_
                          rotate_left
                          · (intro wx hSw; (try dsimp only at hSw); go_simp; try (with_reducible rfl))
                          try simp only [Act.put, List.getElem_toArray, List.getElem_cons_succ, List.getElem_cons_zero, List.setIfInBounds_toArray, List.set_cons_zero, List.set_cons_succ]
                          refine wpAnyH_take (i := 5) (v := ?_) rfl (by kernel_rfl) (by kernel_rfl) (by kernel_rfl) (fun _ _ _ h => h) (Or.inl ⟨by kernel_rfl, ?_⟩) (by assumption) ?_
                          rotate_left
                          · (intro wx hSw; (try dsimp only at hSw); go_simp; try (with_reducible rfl))
                          try simp only [Act.put, List.getElem_toArray, List.getElem_cons_succ, List.getElem_cons_zero, List.setIfInBounds_toArray, List.set_cons_zero, List.set_cons_succ]
                          refine wpAnyH_take (i := 6) (v := ?_) rfl (by kernel_rfl) (by kernel_rfl) (by kernel_rfl) (fun _ _ _ h => h) (Or.inl ⟨by kernel_rfl, ?_⟩) (by assumption) ?_
                          rotate_left
                          · (intro wx hSw; (try dsimp only at hSw); go_simp; try (with_reducible rfl))
                          try simp only [Act.put, List.getElem_toArray, List.getElem_cons_succ, List.getElem_cons_zero, List.setIfInBounds_toArray, List.set_cons_zero, List.set_cons_succ]
                          refine wpAnyH_take (i := 7) (v := ?_) rfl (by kernel_rfl) (by kernel_rfl) (by kernel_rfl) (fun _ _ _ h => h) (Or.inl ⟨by kernel_rfl, ?_⟩) (by assumption) ?_
                          rotate_left
                          · (intro wx hSw; (try dsimp only at hSw); go_simp; try (with_reducible rfl))
                          try simp only [Act.put, List.getElem_toArray, List.getElem_cons_succ, List.getElem_cons_zero, List.setIfInBounds_toArray, List.set_cons_zero, List.set_cons_succ]
                          refine wpAnyH_take (i := 8) (v := ?_) rfl (by kernel_rfl) (by kernel_rfl) (by kernel_rfl) (fun _ _ _ h => h) (Or.inl ⟨by kernel_rfl, ?_⟩) (by assumption) ?_
                          rotate_left
                          · (intro wx hSw; (try dsimp only at hSw); go_simp; try (with_reducible rfl))
                          try simp only [Act.put, List.getElem_toArray, List.getElem_cons_succ, List.getElem_cons_zero, List.setIfInBounds_toArray, List.set_cons_zero, List.set_cons_succ]
                          refine wpAnyH_take (i := 9) (v := ?_) rfl (by kernel_rfl) (by kernel_rfl) (by kernel_rfl) (fun _ _ _ h => h) (Or.inl ⟨by kernel_rfl, ?_⟩) (by assumption) ?_
                          rotate_left
                          · (intro wx hSw; (try dsimp only at hSw); go_simp; try (with_reducible rfl))
                          try simp only [Act.put, List.getElem_toArray, List.getElem_cons_succ, List.getElem_cons_zero, List.setIfInBounds_toArray, List.set_cons_zero, List.set_cons_succ]
                          refine wpAnyH_take (i := 10) (v := ?_) rfl (by kernel_rfl) (by kernel_rfl) (by kernel_rfl) (fun _ _ _ h => h) (Or.inl ⟨by kernel_rfl, ?_⟩) (by assumption) ?_
                          rotate_left
                          · (intro wx hSw; (try dsimp only at hSw); go_simp; try (with_reducible rfl))
                          try simp only [Act.put, List.getElem_toArray, List.getElem_cons_succ, List.getElem_cons_zero, List.setIfInBounds_toArray, List.set_cons_zero, List.set_cons_succ]
                          refine wpAnyH_take (i := 11) (v := ?_) rfl (by kernel_rfl) (by kernel_rfl) (by kernel_rfl) (fun _ _ _ h => h) (Or.inl ⟨by kernel_rfl, ?_⟩) (by assumption) ?_
                          rotate_left
                          · (intro wx hSw; (try dsimp only at hSw); go_simp; try (with_reducible rfl))
                          try simp only [Act.put, List.getElem_toArray, List.getElem_cons_succ, List.getElem_cons_zero, List.setIfInBounds_toArray, List.set_cons_zero, List.set_cons_succ]
                          refine wpAnyH_take (i := 12) (v := ?_) rfl (by kernel_rfl) (by kernel_rfl) (by kernel_rfl) (fun _ _ _ h => h) (Or.inl ⟨by kernel_rfl, ?_⟩) (by assumption) ?_
                          rotate_left
                          · (intro wx hSw; (try dsimp only at hSw); go_simp; try (with_reducible rfl))
                          try simp only [Act.put, List.getElem_toArray, List.getElem_cons_succ, List.getElem_cons_zero, List.setIfInBounds_toArray, List.set_cons_zero, List.set_cons_succ]
                          refine wpAnyH_done (by kernel_rfl) ?_ _
                          go_wp2
                          go_roundw
                          case rel => exact ⟨f + 1, by omega, by go_num, by rw [MS'.out], HBF.out.trans_ (by repeat' (first | exact Bl.refl _ | with_reducible assumption | with_reducible refine Bl.drew_ ?_ | with_reducible refine Bl.drewN_ ?_ _ | with_reducible refine Bl.alloc_ ?_ _ | with_reducible refine Bl.trans_ ?_ (by assumption) | with_reducible refine Bl.trans_ ?_ (And.left (by assumption))))⟩
                          case measure => simp [intOf]; omega
                    · obtain rfl : f = mm := by omega
                      rw [MM.out]
                      have WF := Lib.hid (hbj.trans_ hbf)
                      go_wp2
                      go_roundw
                      case rel => exact ⟨j + 1, by omega, by go_num, WF.out⟩
                      case measure => simp [intOf]; omega
                · obtain rfl : j = k := by omega
                  have WF := Lib.hid (HBL.out.trans_ (HB8.out.trans_ hbj))
                  go_wp2
                  go_roundw
                  case rel => exact ⟨i + 1, by omega, by go_num, WF.out⟩
                  case measure => simp [intOf]; omega
            · have bd : (d' != d) = true := by simpa using hdd
              have WF := Lib.hid (HBL.out.trans_ HB7.out)
              clear hdd
              go_wp2
              go_roundw
              case rel => exact ⟨i + 1, by omega, by go_num, WF.out⟩
              case measure => simp [intOf]; omega
        · obtain rfl : i = l := by omega
          go_wp2
          go_ret
          exact ⟨rfl, B1.out.trans_ (G5.out.trans_ hbl)⟩

end Go.Proofs.Ytelgjfflhcmljaa
