/-
  What is proved here: impl.lacking leaves one arc out, and impl.Detour tells how far it is then; Detour of the model; impl.Vital tells the arcs without each of which alone it is another distance, in order; Vital of the model tells the arcs without each of which alone it is another distance. No conditions beyond those that each theorem states.
-/
import Derived.Test.YtelgjfflhcmljaaZP
import Derived.Test.YtelgjfflhcmljaaG2w
import Derived.Test.YtelgjfflhcmljaaZN
import Derived.Test.YtelgjfflhcmljaaG3
import Derived.Test.YtelgjfflhcmljaaZS
set_option linter.unusedSimpArgs false
set_option linter.unusedVariables false
namespace Go.Proofs.Ytelgjfflhcmljaa
open Go.RowKit

/-- A graph is told whose arcs can be read. -/
def GraphAt (N : Int) (M : List Arc3) (w : World) (e : Ending) (w' : World) : Prop :=
  ∃ A n c, e = .returned (.agg #[.int .i64 N, .slice A n c]) ∧ n = M.length ∧ n ≤ c ∧ ArcsAt w' w'.heap.size A M ∧ Bl w w'

theorem OwnA.cap_ {w : World} {B : Nat} {A : Option Addr} {n c : Nat} {L : List Arc3} (h : OwnA w B (.slice A n c) L) : L.length ≤ c := by
  have h' : w.ownsRow B 82 3 (.slice A n c) L.length (cs3 L) := h
  rcases h'.2 with ⟨e, h0⟩ | ⟨g, cap, cur, e, _, _, hnc, _⟩
  · omega
  · injection e with e1 e2 e3
    omega
set_option maxRecDepth 100000 in
set_option maxHeartbeats 1000000 in
theorem lacking_any (N u v : Int) (A : Option Addr) (n c : Nat) (L : List Arc3) (hn : n = L.length) (hnc : n ≤ c) (hcc : c ≤ 9223372036854775807) (ho : okB N L = true) (w : World) (hm : n ≤ 1048576) (H1 : ArcsAt w w.heap.size A L) :
    Calls Try.prog 86 #[.agg #[.int .i64 N, .slice A n c], .int .i64 u, .int .i64 v] w (GraphAt N (restL u v L) w) := by
  have K1 := Lib.hid H1
  have HN := Lib.hid hn
  have HO := Lib.hid ho
  clear H1 hn ho
  cases hp : pairB N u v with
  | false =>
    have HP := Lib.hid hp
    clear hp
    go_enter Try.func86, Try.ntmps86
    go_wp2_with fail
    refine (implWeighedW_any N u v 0 A n c L HN.out hnc hcc _ hm (K1.out.bl (by repeat' (first | exact Bl.refl _ | with_reducible assumption | with_reducible refine Bl.drew_ ?_ | with_reducible refine Bl.drewN_ ?_ _ | with_reducible refine Bl.alloc_ ?_ _ | with_reducible refine Bl.trans_ ?_ (by assumption) | with_reducible refine Bl.trans_ ?_ (And.left (by assumption)))))).mono ?_
    rintro e w1 ⟨v1, he, hv1, hb1⟩
    rw [weighedB0 HO.out, HP.out, if_neg (by simp)] at he hv1
    subst he
    have B1 : Bl w w1 := (Bl.alloc_ (Bl.alloc_ (Bl.refl w) _) _).trans_ hb1
    obtain ⟨A1, c1, rfl, -, -⟩ := hv1.shape
    obtain ⟨h00, h01, h10, h11, f10, f11, hsz⟩ := box22 hb1
    have hsw : w.heap.size < w1.heap.size := by omega
    clear hv1
    go_wp2
    refine bodyPost_ret (v := .agg #[.int .i64 N, .slice A n c]) (by simp [results, Try.results86, go_sem, h10, h11, f10, f11, hsz]) rfl ?_
    refine (fun (B2 : Bl w _) => ⟨A, n, c, rfl, by rw [restL_nopair HO.out HP.out]; exact HN.out, hnc, by rw [restL_nopair HO.out HP.out]; exact K1.out.bl B2, B2⟩) ?_
    exact Bl.alloc_ (Bl.set_ (Bl.set_ B1 (Nat.le_succ _) _) (Nat.le_succ _) _) _
  | true =>
    have HP := Lib.hid hp
    clear hp
    go_enter Try.func86, Try.ntmps86
    go_wp2_with fail
    refine (implWeighedW_any N u v 0 A n c L HN.out hnc hcc _ hm (K1.out.bl (by repeat' (first | exact Bl.refl _ | with_reducible assumption | with_reducible refine Bl.drew_ ?_ | with_reducible refine Bl.drewN_ ?_ _ | with_reducible refine Bl.alloc_ ?_ _ | with_reducible refine Bl.trans_ ?_ (by assumption) | with_reducible refine Bl.trans_ ?_ (And.left (by assumption)))))).mono ?_
    rintro e w1 ⟨v1, he, hv1, hb1⟩
    rw [weighedB0 HO.out, HP.out, if_pos rfl] at he hv1
    subst he
    rw [weighed0] at hv1
    have B1 : Bl w w1 := (Bl.alloc_ (Bl.alloc_ (Bl.refl w) _) _).trans_ hb1
    obtain ⟨A1, c1, rfl, -, -⟩ := hv1.shape
    obtain ⟨h00, h01, h10, h11, f10, f11, hsz⟩ := box22 hb1
    have V := Lib.hid (hv1.low (B := w.heap.size + 2) (by simp))
    clear hv1
    go_wp2
    refine bodyPost_ret (v := .agg #[.int .i64 N, .slice A1 (restL u v L).length c1]) (by simp [results, Try.results86, go_sem, h10, h11, f10, f11, hsz]) rfl ?_
    have V2 := (OwnA.set_ (OwnA.set_ V.out (p := ⟨w.heap.size + 1, 0, none⟩) (by show w.heap.size + 1 < _; omega) (.int .i64 N)) (p := ⟨w.heap.size + 1, 1, none⟩) (by show w.heap.size + 1 < _; omega) (.slice A1 (restL u v L).length c1)).bl (Bl.alloc_ (Bl.refl _) (.cells #[.int .i64 N, .slice A1 (restL u v L).length c1] 29))
    obtain ⟨A2, c2, e2, ha2, -⟩ := V2.shape
    injection e2 with e3 e4 e5
    subst e3
    exact ⟨A1, _, c1, rfl, rfl, V2.cap_, ha2, Bl.alloc_ (Bl.set_ (Bl.set_ B1 (Nat.le_succ _) _) (Nat.le_succ _) _) _⟩

set_option maxRecDepth 100000 in
set_option maxHeartbeats 1000000 in
theorem implDetour_any (N s t u v : Int) (A : Option Addr) (n c : Nat) (L : List Arc3) (hn : n = L.length) (hc : n ≤ c) (hcc : c ≤ 9223372036854775807) (w : World) (hm : n ≤ 1048576) (H1 : ArcsAt w w.heap.size A L) :
    Calls Try.prog 20 #[.agg #[.int .i64 N, .slice A n c], .int .i64 s, .int .i64 t, .int .i64 u, .int .i64 v] w fun e w' => e = .returned (.int .i64 (detI N L s t u v)) ∧ Bl w w' := by
  have K1 := Lib.hid H1
  have HN := Lib.hid hn
  clear H1 hn
  cases hh : has2 N L s t with
  | false =>
    have HH := Lib.hid hh
    clear hh
    go_enter Try.func20, Try.ntmps20
    go_wp2_with fail
    refine (hasNodes_2 N s t A n c L HN.out (w.heap.size + 1) 2 _ (by omega) (K1.out.bl (by repeat' (first | exact Bl.refl _ | with_reducible assumption | with_reducible refine Bl.drew_ ?_ | with_reducible refine Bl.drewN_ ?_ _ | with_reducible refine Bl.alloc_ ?_ _ | with_reducible refine Bl.trans_ ?_ (by assumption) | with_reducible refine Bl.trans_ ?_ (And.left (by assumption))))) (by simp) (by simp [go_sem]) (by simp [go_sem])).mono ?_
    rintro e w1 ⟨rfl, hb1⟩
    rw [HH.out]
    go_wp2
    go_ret
    exact ⟨ret_int (by unfold detI; rw [if_neg (by rw [HH.out]; simp)]), (by repeat' (first | exact Bl.refl _ | with_reducible assumption | with_reducible refine Bl.drew_ ?_ | with_reducible refine Bl.drewN_ ?_ _ | with_reducible refine Bl.alloc_ ?_ _ | with_reducible refine Bl.trans_ ?_ (by assumption) | with_reducible refine Bl.trans_ ?_ (And.left (by assumption))))⟩
  | true =>
    have HH := Lib.hid hh
    obtain ⟨ho, ⟨hs0, hs1⟩, ht0, ht1⟩ := has2_of hh
    have hN24 := (okB_elim ho).2.1
    have HO := Lib.hid ho
    have HR := Lib.hid (restL_ok (u := u) (v := v) ho)
    obtain ⟨q, rfl⟩ : ∃ q : Nat, t = q := ⟨t.toNat, by omega⟩
    clear hh ho
    go_enter Try.func20, Try.ntmps20
    go_wp2_with fail
    refine (hasNodes_2 N s q A n c L HN.out (w.heap.size + 1) 2 _ (by omega) (K1.out.bl (by repeat' (first | exact Bl.refl _ | with_reducible assumption | with_reducible refine Bl.drew_ ?_ | with_reducible refine Bl.drewN_ ?_ _ | with_reducible refine Bl.alloc_ ?_ _ | with_reducible refine Bl.trans_ ?_ (by assumption) | with_reducible refine Bl.trans_ ?_ (And.left (by assumption))))) (by simp) (by simp [go_sem]) (by simp [go_sem])).mono ?_
    rintro e w1 ⟨rfl, hb1⟩
    rw [HH.out]
    have hx := (bcell hb1).1
    have q0 : w1.cell? ⟨w.heap.size, 0, none⟩ = some (.int .i64 N) := (hx _ _ (by simp; omega)).trans (by simp [go_sem])
    have q1 : w1.cell? ⟨w.heap.size, 1, none⟩ = some (.slice A n c) := (hx _ _ (by simp; omega)).trans (by simp [go_sem])
    have hbw : Bl w w1 := (((Bl.refl w).alloc_ _).alloc_ _).trans_ hb1
    clear hx hb1
    go_wp2_with fail
    refine (lacking_any N u v A n c L HN.out hc hcc HO.out _ hm (K1.out.bl hbw)).mono ?_
    rintro e w2 ⟨A2, n2, c2, rfl, hn2, hc2, ha2, hb2⟩
    have HN2 := Lib.hid hn2
    have HA2 := Lib.hid ha2
    have hbw2 := hbw.trans_ hb2
    clear hn2 ha2 hb2 q0 q1
    go_wp2_with fail
    refine (distances_any N s A2 n2 c2 (restL u v L) HN2.out hc2 HR.out hs0 hs1 _ HA2.out).mono ?_
    rintro e w3 ⟨E, rfl, hE, hEd, hb3⟩
    have EL := Lib.hid hE
    have ED := Lib.hid hEd
    clear hE hEd
    have hix := index24 E EL.out q (by omega) w3
    have hd : dAt E (q : Int) = detI N L s q u v := by
      unfold detI
      rw [if_pos HH.out, ← ED.out]
      unfold dAt
      simp only [List.getD_eq_getElem?_getD]
      rw [List.getElem?_take, if_pos (by omega)]
    rw [hd] at hix
    clear hd
    go_wp2
    go_ret
    exact ⟨ret_int rfl, hbw2.trans_ hb3⟩

end Go.Proofs.Ytelgjfflhcmljaa

set_option linter.unusedSimpArgs false
set_option linter.unusedVariables false
namespace Go.Proofs.Ytelgjfflhcmljaa
open Go.RowKit

set_option maxHeartbeats 1000000 in
theorem specDetour_any (N s t a b : Int) (A : Option Addr) (n c : Nat) (L : List Arc3) (hn : n = L.length) (hc : n ≤ c) (w : World) (hm : n ≤ 1048576) (H1 : ArcsAt w w.heap.size A L) :
    Calls Try.prog 18 #[.agg #[.int .i64 N, .slice A n c], .int .i64 s, .int .i64 t, .int .i64 a, .int .i64 b] w fun e w' => e = .returned (.int .i64 (detI N L s t a b)) ∧ Bl w w' := by
  have K1 := Lib.hid H1
  have HN := Lib.hid hn
  clear H1 hn
  cases ho : okB N L with
  | false =>
    have HO := Lib.hid ho
    clear ho
    go_enter Try.func18, Try.ntmps18
    go_wp2_with fail
    refine (specOk_any N A n c L HN.out _ (by omega) (K1.out.bl (by repeat' (first | exact Bl.refl _ | with_reducible assumption | with_reducible refine Bl.drew_ ?_ | with_reducible refine Bl.drewN_ ?_ _ | with_reducible refine Bl.alloc_ ?_ _ | with_reducible refine Bl.trans_ ?_ (by assumption) | with_reducible refine Bl.trans_ ?_ (And.left (by assumption)))))).mono ?_
    rintro e w1 ⟨rfl, hb1⟩
    rw [HO.out]
    go_wp2
    go_ret
    refine ⟨ret_int ?_, (by repeat' (first | exact Bl.refl _ | with_reducible assumption | with_reducible refine Bl.drew_ ?_ | with_reducible refine Bl.drewN_ ?_ _ | with_reducible refine Bl.alloc_ ?_ _ | with_reducible refine Bl.trans_ ?_ (by assumption) | with_reducible refine Bl.trans_ ?_ (And.left (by assumption))))⟩
    unfold detI has2
    rw [HO.out, Bool.false_and, if_neg (by simp)]
  | true =>
    have HO := Lib.hid ho
    have HNB := Lib.hid (nodeB_ok (v := s) ho)
    have HNT := Lib.hid (nodeB_ok (v := t) ho)
    clear ho
    by_cases hh : 0 ≤ s ∧ s < N
    · have h1 : decide (0 ≤ s ∧ s < N) = true := by simpa using hh
      have H1 := Lib.hid h1
      obtain ⟨hs0, hs1⟩ := hh
      clear h1
      by_cases hk : 0 ≤ t ∧ t < N
      · have h2 : decide (0 ≤ t ∧ t < N) = true := by simpa using hk
        have H2 := Lib.hid h2
        obtain ⟨ht0, ht1⟩ := hk
        clear h2
        obtain ⟨u, rfl⟩ : ∃ u : Nat, t = u := ⟨t.toNat, by omega⟩
        go_enter Try.func18, Try.ntmps18
        go_wp2_with fail
        refine (specOk_any N A n c L HN.out _ (by omega) (K1.out.bl (by repeat' (first | exact Bl.refl _ | with_reducible assumption | with_reducible refine Bl.drew_ ?_ | with_reducible refine Bl.drewN_ ?_ _ | with_reducible refine Bl.alloc_ ?_ _ | with_reducible refine Bl.trans_ ?_ (by assumption) | with_reducible refine Bl.trans_ ?_ (And.left (by assumption)))))).mono ?_
        rintro e w1 ⟨rfl, hb1⟩
        rw [HO.out]
        obtain ⟨q0, q1⟩ := box2 hb1
        go_wp2_with fail
        refine (l1Node_any N s _ _).mono ?_
        rintro e w2 ⟨rfl, hb2⟩
        rw [HNB.out, H1.out]
        have hb2 := hb1.trans_ hb2
        clear q0 q1
        obtain ⟨q0, q1⟩ := box2 hb2
        go_wp2_with fail
        refine (l1Node_any N u _ _).mono ?_
        rintro e w3 ⟨rfl, hb3⟩
        rw [HNT.out, H2.out]
        have hb3 := hb2.trans_ hb3
        clear q0 q1
        obtain ⟨q0, q1⟩ := box2 hb3
        have hbw : Bl w w3 := (Bl.alloc_ (Bl.refl w) _).trans_ hb3
        clear hb1 hb2 hb3
        go_wp2_with fail
        refine (l1Weigh_any N a b 0 A n c L HN.out _ hm (K1.out.bl hbw)).mono ?_
        rintro e w3' ⟨vv, rfl, hv, hb3'⟩
        rw [weighed0] at hv
        obtain ⟨A3, c3, rfl, ha3, -⟩ := hv.shape
        have HA3 := Lib.hid ha3
        have HR := Lib.hid (restL_ok (u := a) (v := b) HO.out)
        have hr150 := (okB_elim HR.out).2.2.1
        have hbw := hbw.trans_ hb3'
        clear hv ha3 hb3' q0 q1
        go_wp2_with fail
        refine (l3Dist_any N s A3 _ c3 (restL a b L) rfl HR.out hs0 hs1 _ (by omega) HA3.out).mono ?_
        rintro e w4 ⟨v, rfl, hv, hb4⟩
        have hl : (distL N (restL a b L) s).length = N.toNat := distL_len HR.out hs0 hs1
        obtain ⟨A5, c5, rfl, hc5, hi5, -, -⟩ := OwnN.shape hv
        obtain ⟨g5, o5, rfl, hg5, hcell⟩ := hi5.cell (by omega)
        have p := hcell u (by omega)
        have e1 : (distL N (restL a b L) s)[u]'(by omega) = detI N L s u a b := by
          unfold detI has2
          rw [HO.out, Bool.true_and, if_pos (by simp; omega)]
          unfold dAt
          simp [hl]
          rw [List.getElem?_eq_getElem (by omega)]
          rfl
        rw [e1] at p
        have i1 : (0 : Int) ≤ (u : Int) := by omega
        have i2 : (u : Int) < ((distL N (restL a b L) s).length : Int) := by omega
        clear hcell hv hi5 e1 hl
        generalize (distL N (restL a b L) s).length = dl at *
        go_wp2
        go_ret
        exact ⟨ret_int rfl, hbw.trans_ hb4⟩
      · have h2 : decide (0 ≤ t ∧ t < N) = false := by simpa using hk
        have H2 := Lib.hid h2
        clear h2
        go_enter Try.func18, Try.ntmps18
        go_wp2_with fail
        refine (specOk_any N A n c L HN.out _ (by omega) (K1.out.bl (by repeat' (first | exact Bl.refl _ | with_reducible assumption | with_reducible refine Bl.drew_ ?_ | with_reducible refine Bl.drewN_ ?_ _ | with_reducible refine Bl.alloc_ ?_ _ | with_reducible refine Bl.trans_ ?_ (by assumption) | with_reducible refine Bl.trans_ ?_ (And.left (by assumption)))))).mono ?_
        rintro e w1 ⟨rfl, hb1⟩
        rw [HO.out]
        obtain ⟨q0, q1⟩ := box2 hb1
        go_wp2_with fail
        refine (l1Node_any N s _ _).mono ?_
        rintro e w2 ⟨rfl, hb2⟩
        rw [HNB.out, H1.out]
        have hb2 := hb1.trans_ hb2
        clear q0 q1
        obtain ⟨q0, q1⟩ := box2 hb2
        go_wp2_with fail
        refine (l1Node_any N t _ _).mono ?_
        rintro e w3 ⟨rfl, hb3⟩
        rw [HNT.out, H2.out]
        have hb3 := hb2.trans_ hb3
        have hbw : Bl w w3 := (Bl.alloc_ (Bl.refl w) _).trans_ hb3
        clear hb1 hb2 hb3 q0 q1
        go_wp2
        go_ret
        refine ⟨ret_int ?_, hbw⟩
        unfold detI has2
        rw [if_neg]
        intro h
        simp at h
        exact hk h.2.2
    · have h1 : decide (0 ≤ s ∧ s < N) = false := by simpa using hh
      have H1 := Lib.hid h1
      clear h1
      go_enter Try.func18, Try.ntmps18
      go_wp2_with fail
      refine (specOk_any N A n c L HN.out _ (by omega) (K1.out.bl (by repeat' (first | exact Bl.refl _ | with_reducible assumption | with_reducible refine Bl.drew_ ?_ | with_reducible refine Bl.drewN_ ?_ _ | with_reducible refine Bl.alloc_ ?_ _ | with_reducible refine Bl.trans_ ?_ (by assumption) | with_reducible refine Bl.trans_ ?_ (And.left (by assumption)))))).mono ?_
      rintro e w1 ⟨rfl, hb1⟩
      rw [HO.out]
      obtain ⟨q0, q1⟩ := box2 hb1
      go_wp2_with fail
      refine (l1Node_any N s _ _).mono ?_
      rintro e w2 ⟨rfl, hb2⟩
      rw [HNB.out, H1.out]
      have hb2 := hb1.trans_ hb2
      have hbw : Bl w w2 := (Bl.alloc_ (Bl.refl w) _).trans_ hb2
      clear hb1 hb2 q0 q1
      go_wp2
      go_ret
      refine ⟨ret_int ?_, hbw⟩
      unfold detI has2
      rw [if_neg]
      intro h
      simp at h
      exact hh h.2.1

end Go.Proofs.Ytelgjfflhcmljaa

set_option linter.unusedSimpArgs false
set_option linter.unusedVariables false
namespace Go.Proofs.Ytelgjfflhcmljaa
open Go.RowKit

set_option maxRecDepth 100000 in
set_option maxHeartbeats 4000000 in
theorem implVital_any (N s t : Int) (A : Option Addr) (n c : Nat) (L : List Arc3) (hn : n = L.length) (hc : n ≤ c) (hcc : c ≤ 9223372036854775807) (w : World) (hm : n ≤ 1048576) (H1 : ArcsAt w w.heap.size A L) :
    Calls Try.prog 23 #[.agg #[.int .i64 N, .slice A n c], .int .i64 s, .int .i64 t] w (ListMade (vitL N L s t) w) := by
  obtain ⟨i0, hi, hz0, hz1, hz2⟩ := info_parts infoArc
  have I0 := Lib.hid hi
  have I1 := Lib.hid hz0
  have I2 := Lib.hid hz1
  have I3 := Lib.hid hz2
  have K1 := Lib.hid H1
  have HN := Lib.hid hn
  clear H1 hn hi hz0 hz1 hz2
  by_cases hp : 0 < (pathL N L s t).length
  · obtain ⟨hh, hd⟩ := path_far.1 hp
    have HSO := Lib.hid (has2_of hh).1
    have VP := Lib.hid (vital_perm hh hd)
    have HSH := path_short (N := N) (L := L) (s := s) (t := t)
    obtain ⟨P, hP⟩ : ∃ P, P = pathL N L s t := ⟨_, rfl⟩
    have PL := Lib.hid hP
    rw [← hP] at hp HSH VP
    obtain ⟨q, hq⟩ : ∃ q, P.length = q + 1 := ⟨P.length - 1, by omega⟩
    have HQ := Lib.hid hq
    rw [hq] at VP HSH
    have hq24 : q ≤ 23 := by omega
    have hdp : decide (0 < q + 1) = true := by simp
    obtain ⟨d, hdd⟩ : ∃ d, d = distOfI N L s t := ⟨_, rfl⟩
    have HD := Lib.hid hdd
    clear hh hd hp HSH hP hq hdd
    go_enter Try.func23, Try.ntmps23
    go_wp2_with fail
    refine (implPathOf_any N s t A n c L HN.out hc _ hm (K1.out.bl (by repeat' (first | exact Bl.refl _ | with_reducible assumption | with_reducible refine Bl.drew_ ?_ | with_reducible refine Bl.drewN_ ?_ _ | with_reducible refine Bl.alloc_ ?_ _ | with_reducible refine Bl.trans_ ?_ (by assumption) | with_reducible refine Bl.trans_ ?_ (And.left (by assumption)))))).mono ?_
    rintro e w1 ⟨v1, rfl, hv1, hb1⟩
    rw [← PL.out] at hv1
    rw [← PL.out, HQ.out, hdp]
    obtain ⟨A1, c1, rfl, hc1, hA1, -, -⟩ := OwnN.shape hv1
    rw [HQ.out] at hc1 ⊢
    obtain ⟨g1, o1, rfl, hg1, hcell⟩ := hA1.cell (by rw [HQ.out]; omega)
    have HC := Lib.hid hcell
    obtain ⟨q0, q1⟩ := box2 hb1
    clear hv1 hA1 hcell
    go_wp2_with fail
    refine (implDistOf_any N s t A n c L HN.out hc _ hm (K1.out.bl (by repeat' (first | exact Bl.refl _ | with_reducible assumption | with_reducible refine Bl.drew_ ?_ | with_reducible refine Bl.drewN_ ?_ _ | with_reducible refine Bl.alloc_ ?_ _ | with_reducible refine Bl.trans_ ?_ (by assumption) | with_reducible refine Bl.trans_ ?_ (And.left (by assumption)))))).mono ?_
    rintro e w2 ⟨rfl, hb2⟩
    rw [← HD.out]
    have HB2 := Lib.hid (hb1.trans_ hb2)
    have HC2 := Lib.hid (show ∀ wx, Bl w2 wx → ∀ k (h : k < P.length), wx.cell? ⟨g1, o1 + k, none⟩ = some (.int .i64 P[k]) from fun wx hb k h => ((bcell (hb2.trans_ hb)).1 _ _ hg1).trans (HC.out k h))
    have HBX := Lib.hid (show ∀ wx, Bl w2 wx → wx.cell? ⟨w.heap.size, 0, none⟩ = some (.int .i64 N) ∧ wx.cell? ⟨w.heap.size, 1, none⟩ = some (.slice A n c) from fun wx hb => box2 (HB2.out.trans_ hb))
    have B2 := Lib.hid (show Bl w w2 from (Bl.alloc_ (Bl.refl w) _).trans_ HB2.out)
    clear hb1 hb2 q0 q1 hg1 HC
    by_cases hc1' : c1 = 1
    · obtain rfl : q = 0 := by omega
      subst hc1'
      go_wp2_with fail
      go_loopw [10, 30] (fun v i wr => i = .int .i64 0 ∧ OwnA wr w2.heap.size v (vitK N L s t P 0) ∧ Bl w2 wr) (fun _ i _ => 0)
      case atStart => exact ⟨rfl, OwnA.nil_ _ _, Bl.refl _⟩
      case round =>
        obtain ⟨rfl, hO, hbl⟩ := hrel
        have OO := Lib.hid hO
        have BB := Lib.hid hbl
        clear hO
        have VE := Lib.hid (show (vitK N L s t P 0).Perm (vitL N L s t) from VP.out)
        have hvl := vitK_len N L s t P 0
        go_wp2_with fail
        refine (sort_to (vitL N L s t) (vitK N L s t P 0) vitL_sorted VE.out w2.heap.size _ _ (by omega) OO.out).mono ?_
        rintro e w3 ⟨rfl, ho3, hg3⟩
        have O3 := Lib.hid ho3
        have B3 := Lib.hid ((B2.out.trans_ BB.out).grown_ hg3 (fun g hg => by have := (OwnA.lt OO.out g hg).1; have := B2.out.size; omega))
        clear ho3 hg3
        go_wp2
        go_ret
        exact ⟨_, rfl, O3.out.low B2.out.size, B3.out⟩
    · have i1 : (1 : Int) ≤ ((q + 1 : Nat) : Int) := by omega
      go_wp2_with fail
      go_loopw [10, 30] (fun v i wr => ∃ k : Nat, k ≤ q ∧ i = .int .i64 k ∧ OwnA wr w2.heap.size v (vitK N L s t P k) ∧ Bl w2 wr) (fun _ i _ => q - (intOf i).toNat)
      case atStart => exact ⟨0, by omega, rfl, OwnA.nil_ _ _, Bl.refl _⟩
      case round =>
        obtain ⟨k, hk, rfl, hO, hbl⟩ := hrel
        have OO := Lib.hid hO
        have BB := Lib.hid hbl
        obtain ⟨q0, q1⟩ := HBX.out _ hbl
        have hs2 := hbl.size
        clear hO
        by_cases hlt : k < q
        · have p0 := HC2.out _ hbl k (by rw [HQ.out]; omega)
          have p1 := HC2.out _ hbl (k + 1) (by rw [HQ.out]; omega)
          rw [show o1 + (k + 1) = o1 + 1 + k from by omega] at p1
          have hx : P.getD k 0 = P[k]'(by rw [HQ.out]; omega) := by simp [HQ.out, show k < q + 1 from by omega]
          have hy : P.getD (k + 1) 0 = P[k + 1]'(by rw [HQ.out]; omega) := by simp [HQ.out, show k + 1 < q + 1 from by omega]
          rw [← hx] at p0
          rw [← hy] at p1
          have VY := Lib.hid (fun h => vitK_yes (N := N) (L := L) (s := s) (t := t) (P := P) (k := k) h)
          have VN := Lib.hid (fun h => vitK_no (N := N) (L := L) (s := s) (t := t) (P := P) (k := k) h)
          generalize P.getD k 0 = x at p0 VY VN
          generalize P.getD (k + 1) 0 = y at p1 VY VN
          have j0 : (0 : Int) ≤ (k : Int) := by omega
          have j1 : (k : Int) < (q : Int) := by omega
          have j2 : (k : Int) < ((q + 1 : Nat) : Int) := by omega
          clear hx hy
          obtain ⟨l, hl⟩ : ∃ l, l = (vitK N L s t P k).length := ⟨_, rfl⟩
          have HL := Lib.hid hl
          have hlk : l ≤ k := by rw [hl]; exact vitK_len N L s t P k
          clear hl
          cases hb : vitB N L s t x y with
          | true =>
            have hne : (detI N L s t x y != d) = true := by rw [HD.out]; exact hb
            have HV := Lib.hid (VY.out hb)
            clear hb VY VN
            go_wp2_with fail
            refine (implDetour_any N s t x y A n c L HN.out hc hcc _ hm (K1.out.bl (B2.out.trans_ hbl))).mono ?_
            rintro e w4 ⟨rfl, hb4⟩
            have c4 := hb4
            have hb4 := hbl.trans_ hb4
            clear q0 q1
            obtain ⟨q0, q1⟩ := HBX.out _ hb4
            go_wp2_with fail
            refine (arcWeight_any N x y A n c L HN.out _ hm (sorted_of_ok HSO.out) (K1.out.bl (B2.out.trans_ hb4))).mono ?_
            rintro e w5 ⟨rfl, hb5⟩
            have hb5' := hb4.trans_ hb5
            have BB5 := Lib.hid hb5'
            have WR := Lib.hid (c4.trans_ hb5)
            have s5 := BB5.out.size
            obtain ⟨z, hz⟩ : ∃ z, z = wtL x y L := ⟨_, rfl⟩
            have HZ := Lib.hid hz
            rw [← hz]
            clear q0 q1 hb4 hb5 hb5' hz c4
            have O5 := Lib.hid (show w5.ownsRow w2.heap.size 82 3 u10 l (cs3 (vitK N L s t P k)) from by
              have h : OwnA w5 w2.heap.size u10 (vitK N L s t P k) := OO.out.bl WR.out
              rw [HL.out]; exact h)
            go_wp2_with (at_builtin; refine wpList_append_own _ rfl (.tmp 47) (.tmp 55) _ rfl w2.heap.size 82 i0 _ 3 24 Try.underlying27 I0.out I1.out I2.out I3.out rfl (by decide) _ l (cs3 (vitK N L s t P k)) rfl ?c0 ⟨w5.heap.size, 0, none⟩ 1 1 [.int .i64 x, .int .i64 y, .int .i64 z] rfl rfl ?c1 (one3 _ _ _) ?c3 ?c4 ?c5 ?_)
            case c0 => exact World.ownsRow.alloc O5.out _
            case c1 => have := new3 w5 (.int .i64 x) (.int .i64 y) (.int .i64 z) 82; simpa using this
            case c3 => unfold maxLen; omega
            case c4 => omega
            case c5 => simp; omega
            intro v2 w6 hown6 hg6 _
            have O6 := Lib.hid (show OwnA w6 w2.heap.size v2 (vitK N L s t P (k + 1)) from by
              rw [HV.out, ← HZ.out]
              exact own_snoc (a := (x, y, z)) (by rw [← HL.out]; exact hown6))
            have B6 := Lib.hid ((BB5.out.alloc_ _).grown_ hg6 (fun g hg => by have := (World.ownsRow.lt O5.out g hg).1; omega))
            clear hown6 hg6
            go_wp2
            go_roundw
            case rel => exact ⟨k + 1, by omega, by go_num, O6.out, B6.out⟩
            case measure => simp [intOf]; omega
          | false =>
            have hne : (detI N L s t x y != d) = false := by rw [HD.out]; exact hb
            have HV := Lib.hid (VN.out hb)
            clear hb VY VN
            go_wp2_with fail
            refine (implDetour_any N s t x y A n c L HN.out hc hcc _ hm (K1.out.bl (B2.out.trans_ hbl))).mono ?_
            rintro e w4 ⟨rfl, hb4⟩
            have O4 := Lib.hid (OO.out.bl hb4)
            have B4 := Lib.hid (hbl.trans_ hb4)
            go_wp2
            go_roundw
            case rel => exact ⟨k + 1, by omega, by go_num, by rw [HV.out]; exact O4.out, B4.out⟩
            case measure => simp [intOf]; omega
        · obtain rfl : k = q := by omega
          have VE := Lib.hid (show (vitK N L s t P k).Perm (vitL N L s t) from VP.out)
          have hvl := vitK_len N L s t P k
          go_wp2_with fail
          refine (sort_to (vitL N L s t) (vitK N L s t P k) vitL_sorted VE.out w2.heap.size _ _ (by omega) OO.out).mono ?_
          rintro e w3 ⟨rfl, ho3, hg3⟩
          have O3 := Lib.hid ho3
          have B3 := Lib.hid ((B2.out.trans_ BB.out).grown_ hg3 (fun g hg => by have := (OwnA.lt OO.out g hg).1; have := B2.out.size; omega))
          clear ho3 hg3
          go_wp2
          go_ret
          exact ⟨_, rfl, O3.out.low B2.out.size, B3.out⟩
  · have hpl : (pathL N L s t).length = 0 := by omega
    have PL := Lib.hid (List.eq_nil_of_length_eq_zero hpl)
    have hv0 : vitL N L s t = [] := by
      unfold vitL
      rw [if_neg (fun h => hp (path_far.2 h))]
    have HV := Lib.hid hv0
    clear hp hpl hv0
    go_enter Try.func23, Try.ntmps23
    go_wp2_with fail
    refine (implPathOf_any N s t A n c L HN.out hc _ hm (K1.out.bl (by repeat' (first | exact Bl.refl _ | with_reducible assumption | with_reducible refine Bl.drew_ ?_ | with_reducible refine Bl.drewN_ ?_ _ | with_reducible refine Bl.alloc_ ?_ _ | with_reducible refine Bl.trans_ ?_ (by assumption) | with_reducible refine Bl.trans_ ?_ (And.left (by assumption)))))).mono ?_
    rintro e w1 ⟨v1, rfl, hv1, hb1⟩
    rw [PL.out] at hv1
    rw [PL.out]
    obtain ⟨A1, c1, rfl, -, -, -, -⟩ := OwnN.shape hv1
    have hd0 : decide (0 < ([] : List Int).length) = false := by simp
    rw [hd0]
    obtain ⟨q0, q1⟩ := box2 hb1
    clear hv1 hd0
    go_wp2
    go_ret
    exact ⟨_, rfl, by rw [HV.out]; exact OwnA.nil_ _ _, (by repeat' (first | exact Bl.refl _ | with_reducible assumption | with_reducible refine Bl.drew_ ?_ | with_reducible refine Bl.drewN_ ?_ _ | with_reducible refine Bl.alloc_ ?_ _ | with_reducible refine Bl.trans_ ?_ (by assumption) | with_reducible refine Bl.trans_ ?_ (And.left (by assumption))))⟩

end Go.Proofs.Ytelgjfflhcmljaa

set_option linter.unusedSimpArgs false
set_option linter.unusedVariables false
namespace Go.Proofs.Ytelgjfflhcmljaa
open Go.RowKit

/-- The vital ones of the first k arcs. -/
def vitF (N : Int) (L : List Arc3) (s t : Int) (k : Nat) : List Arc3 := (L.take k).filter fun a => vitB N L s t a.1 a.2.1
theorem vitF_yes {N s t : Int} {L : List Arc3} {k : Nat} (hk : k < L.length) (h : vitB N L s t L[k].1 L[k].2.1 = true) : vitF N L s t (k + 1) = vitF N L s t k ++ [L[k]] := by
  unfold vitF
  rw [List.take_succ_eq_append_getElem hk, List.filter_append, List.filter_cons, if_pos h]
  rfl
theorem vitF_no {N s t : Int} {L : List Arc3} {k : Nat} (hk : k < L.length) (h : vitB N L s t L[k].1 L[k].2.1 = false) : vitF N L s t (k + 1) = vitF N L s t k := by
  unfold vitF
  rw [List.take_succ_eq_append_getElem hk, List.filter_append, List.filter_cons, if_neg (by rw [h]; simp)]
  simp
theorem vitF_len (N s t : Int) (L : List Arc3) (k : Nat) : (vitF N L s t k).length ≤ k := by
  unfold vitF
  exact Nat.le_trans (List.length_filter_le _ _) (by rw [List.length_take]; omega)
theorem vitF_all {N s t : Int} {L : List Arc3} (hh : has2 N L s t = true) (hd : 0 ≤ distOfI N L s t) : vitF N L s t L.length = vitL N L s t := by
  unfold vitF vitL
  rw [if_pos ⟨hh, hd⟩, List.take_length]
theorem vitL_none {N s t : Int} {L : List Arc3} (h : has2 N L s t = false ∨ distOfI N L s t < 0) : vitL N L s t = [] := by
  unfold vitL
  rw [if_neg]
  rintro ⟨h1, h2⟩
  rcases h with h | h
  · rw [h] at h1; cases h1
  · omega

set_option maxRecDepth 100000 in
set_option maxHeartbeats 4000000 in
theorem specVital_any (N s t : Int) (A : Option Addr) (n c : Nat) (L : List Arc3) (hn : n = L.length) (hc : n ≤ c) (w : World) (hm : n ≤ 1048576) (H1 : ArcsAt w w.heap.size A L) :
    Calls Try.prog 22 #[.agg #[.int .i64 N, .slice A n c], .int .i64 s, .int .i64 t] w (ListMade (vitL N L s t) w) := by
  obtain ⟨i0, hi, hz0, hz1, hz2⟩ := info_parts infoArc
  have I0 := Lib.hid hi
  have I1 := Lib.hid hz0
  have I2 := Lib.hid hz1
  have I3 := Lib.hid hz2
  have K1 := Lib.hid H1
  have HN := Lib.hid hn
  have O0 := Lib.hid (show ∀ wx, Bl ((w.alloc (.cells #[.int .i64 N, .slice A n c] 29)).alloc (.cells #[] 82)) wx → OwnA wx (w.heap.size + 1) (.slice (some ⟨w.heap.size + 1, 0, none⟩) 0 0) [] from fun wx hb => (own_start w _).bl hb)
  have BX := Lib.hid (show ∀ wx, Bl ((w.alloc (.cells #[.int .i64 N, .slice A n c] 29)).alloc (.cells #[] 82)) wx → wx.cell? ⟨w.heap.size, 0, none⟩ = some (.int .i64 N) ∧ wx.cell? ⟨w.heap.size, 1, none⟩ = some (.slice A n c) from fun wx hb => box2 ((Bl.alloc_ (Bl.refl (w.alloc (.cells #[.int .i64 N, .slice A n c] 29))) _).trans_ hb))
  have BW := Lib.hid (show ∀ wx, Bl ((w.alloc (.cells #[.int .i64 N, .slice A n c] 29)).alloc (.cells #[] 82)) wx → Bl w wx from fun wx hb => (Bl.alloc_ (Bl.alloc_ (Bl.refl w) _) _).trans_ hb)
  have BG := Lib.hid (show ∀ wx, Bl ((w.alloc (.cells #[.int .i64 N, .slice A n c] 29)).alloc (.cells #[] 82)) wx → Bl (w.alloc (.cells #[.int .i64 N, .slice A n c] 29)) wx from fun wx hb => (Bl.alloc_ (Bl.refl _) _).trans_ hb)
  clear H1 hn hi hz0 hz1 hz2
  cases hh : has2 N L s t with
  | false =>
    have VN := Lib.hid (vitL_none (N := N) (L := L) (s := s) (t := t) (.inl hh))
    cases ho : okB N L with
    | false =>
      have HO := Lib.hid ho
      clear ho hh
      go_enter Try.func22, Try.ntmps22
      go_wp2_with fail
      refine (specOk_any N A n c L HN.out _ (by omega) (K1.out.bl (by repeat' (first | exact Bl.refl _ | with_reducible assumption | with_reducible refine Bl.drew_ ?_ | with_reducible refine Bl.drewN_ ?_ _ | with_reducible refine Bl.alloc_ ?_ _ | with_reducible refine Bl.trans_ ?_ (by assumption) | with_reducible refine Bl.trans_ ?_ (And.left (by assumption)))))).mono ?_
      rintro e w1 ⟨rfl, hb1⟩
      rw [HO.out]
      go_wp2
      go_ret
      exact ⟨_, rfl, by rw [VN.out]; exact (O0.out _ hb1).low (by omega), BW.out _ hb1⟩
    | true =>
      have HO := Lib.hid ho
      have HNS := Lib.hid (nodeB_ok (v := s) ho)
      have HNT := Lib.hid (nodeB_ok (v := t) ho)
      by_cases hs : 0 ≤ s ∧ s < N
      · have h1 : decide (0 ≤ s ∧ s < N) = true := by simpa using hs
        have H1 := Lib.hid h1
        have ht : ¬ (0 ≤ t ∧ t < N) := by
          intro h
          unfold has2 at hh
          rw [ho] at hh
          simp [hs, h] at hh
        have h2 : decide (0 ≤ t ∧ t < N) = false := by simpa using ht
        have H2 := Lib.hid h2
        clear ho hh hs ht h1 h2
        go_enter Try.func22, Try.ntmps22
        go_wp2_with fail
        refine (specOk_any N A n c L HN.out _ (by omega) (K1.out.bl (by repeat' (first | exact Bl.refl _ | with_reducible assumption | with_reducible refine Bl.drew_ ?_ | with_reducible refine Bl.drewN_ ?_ _ | with_reducible refine Bl.alloc_ ?_ _ | with_reducible refine Bl.trans_ ?_ (by assumption) | with_reducible refine Bl.trans_ ?_ (And.left (by assumption)))))).mono ?_
        rintro e w1 ⟨rfl, hb1⟩
        rw [HO.out]
        obtain ⟨q0, q1⟩ := BX.out _ hb1
        go_wp2_with fail
        refine (l1Node_any N s _ _).mono ?_
        rintro e w2 ⟨rfl, hb2⟩
        rw [HNS.out, H1.out]
        have hb2 := hb1.trans_ hb2
        clear q0 q1
        obtain ⟨q0, q1⟩ := BX.out _ hb2
        go_wp2_with fail
        refine (l1Node_any N t _ _).mono ?_
        rintro e w3 ⟨rfl, hb3⟩
        rw [HNT.out, H2.out]
        have hb3 := hb2.trans_ hb3
        go_wp2
        go_ret
        exact ⟨_, rfl, by rw [VN.out]; exact (O0.out _ hb3).low (by omega), BW.out _ hb3⟩
      · have h1 : decide (0 ≤ s ∧ s < N) = false := by simpa using hs
        have H1 := Lib.hid h1
        clear ho hh hs h1
        go_enter Try.func22, Try.ntmps22
        go_wp2_with fail
        refine (specOk_any N A n c L HN.out _ (by omega) (K1.out.bl (by repeat' (first | exact Bl.refl _ | with_reducible assumption | with_reducible refine Bl.drew_ ?_ | with_reducible refine Bl.drewN_ ?_ _ | with_reducible refine Bl.alloc_ ?_ _ | with_reducible refine Bl.trans_ ?_ (by assumption) | with_reducible refine Bl.trans_ ?_ (And.left (by assumption)))))).mono ?_
        rintro e w1 ⟨rfl, hb1⟩
        rw [HO.out]
        obtain ⟨q0, q1⟩ := BX.out _ hb1
        go_wp2_with fail
        refine (l1Node_any N s _ _).mono ?_
        rintro e w2 ⟨rfl, hb2⟩
        rw [HNS.out, H1.out]
        have hb2 := hb1.trans_ hb2
        go_wp2
        go_ret
        exact ⟨_, rfl, by rw [VN.out]; exact (O0.out _ hb2).low (by omega), BW.out _ hb2⟩
  | true =>
    obtain ⟨ho, ⟨hs0, hs1⟩, ht0, ht1⟩ := has2_of hh
    have hN24 := (okB_elim ho).2.1
    have hL150 := (okB_elim ho).2.2.1
    have HO := Lib.hid ho
    have HH := Lib.hid hh
    have HNS := Lib.hid (nodeB_ok (v := s) ho)
    have HNT := Lib.hid (nodeB_ok (v := t) ho)
    have H1 := Lib.hid (show decide (0 ≤ s ∧ s < N) = true by simp; omega)
    have H2 := Lib.hid (show decide (0 ≤ t ∧ t < N) = true by simp; omega)
    obtain ⟨u, rfl⟩ : ∃ u : Nat, t = u := ⟨t.toNat, by omega⟩
    have hn150 : n ≤ 150 := by have := HN.out; omega
    clear ho hh hL150
    go_enter Try.func22, Try.ntmps22
    go_wp2_with fail
    refine (specOk_any N A n c L HN.out _ (by omega) (K1.out.bl (by repeat' (first | exact Bl.refl _ | with_reducible assumption | with_reducible refine Bl.drew_ ?_ | with_reducible refine Bl.drewN_ ?_ _ | with_reducible refine Bl.alloc_ ?_ _ | with_reducible refine Bl.trans_ ?_ (by assumption) | with_reducible refine Bl.trans_ ?_ (And.left (by assumption)))))).mono ?_
    rintro e w1 ⟨rfl, hb1⟩
    rw [HO.out]
    obtain ⟨q0, q1⟩ := BX.out _ hb1
    go_wp2_with fail
    refine (l1Node_any N s _ _).mono ?_
    rintro e w2 ⟨rfl, hb2⟩
    rw [HNS.out, H1.out]
    have hb2 := hb1.trans_ hb2
    clear q0 q1
    obtain ⟨q0, q1⟩ := BX.out _ hb2
    go_wp2_with fail
    refine (l1Node_any N u _ _).mono ?_
    rintro e w3 ⟨rfl, hb3⟩
    rw [HNT.out, H2.out]
    have hb3 := hb2.trans_ hb3
    clear q0 q1
    obtain ⟨q0, q1⟩ := BX.out _ hb3
    go_wp2_with fail
    refine (l3Dist_any N s A n c L HN.out HO.out hs0 hs1 _ hm (K1.out.bl (BW.out _ hb3))).mono ?_
    rintro e w4 ⟨v, rfl, hv, hb4⟩
    have hl : (distL N L s).length = N.toNat := distL_len HO.out hs0 hs1
    obtain ⟨A5, c5, rfl, hc5, hi5, -, -⟩ := OwnN.shape hv
    obtain ⟨g5, o5, rfl, hg5, hcell⟩ := hi5.cell (by omega)
    have p := hcell u (by omega)
    have e1 : (distL N L s)[u]'(by omega) = distOfI N L s u := by
      unfold distOfI
      rw [if_pos HH.out]
      unfold dAt
      simp [hl]
      rw [List.getElem?_eq_getElem (by omega)]
      rfl
    rw [e1] at p
    have i1 : (0 : Int) ≤ (u : Int) := by omega
    have i2 : (u : Int) < ((distL N L s).length : Int) := by omega
    obtain ⟨d, hd⟩ : ∃ d, d = distOfI N L s u := ⟨_, rfl⟩
    have HD := Lib.hid hd
    rw [← hd] at p
    have hb4' := hb3.trans_ hb4
    have HB4 := Lib.hid hb4'
    clear hcell hv hi5 e1 hl q0 q1 hd
    obtain ⟨q0, q1⟩ := BX.out _ hb4'
    clear hb1 hb2 hb3 hb4 hb4'
    generalize (distL N L s).length = dl at *
    go_wp2_with fail
    clear q0 q1 p i2
    by_cases hd0 : 0 ≤ d
    · have hdd : decide (0 ≤ d) = true := by simpa using hd0
      go_loopw [7, 9] (fun v i wr => ∃ k : Nat, k ≤ n ∧ i = .int .i64 k ∧ OwnA wr (w.heap.size + 1) v (vitF N L s u k) ∧ Bl (w.alloc (.cells #[.int .i64 N, .slice A n c] 29)) wr) (fun _ i _ => n - (intOf i).toNat)
      case atStart => exact ⟨0, by omega, rfl, O0.out _ HB4.out, BG.out _ HB4.out⟩
      case round =>
        obtain ⟨k, hk, rfl, hO, hbl⟩ := hrel
        have OO := Lib.hid hO
        have BB := Lib.hid hbl
        obtain ⟨q0, q1⟩ := box2 hbl
        have hsz := hbl.size
        simp only [World.size_alloc] at hsz
        clear hO
        by_cases hlt : k < n
        · have hkl : k < L.length := by have := HN.out; omega
          obtain ⟨g1, o1, rfl, hg1, hc1⟩ := K1.out (by omega)
          obtain ⟨p1, p2, p3⟩ := hc1 k hkl
          clear hc1
          rw [← (bcell ((Bl.alloc_ (Bl.refl w) _).trans_ hbl)).1 _ _ hg1] at p1 p2 p3
          have VY := Lib.hid (fun h => vitF_yes (N := N) (s := s) (t := (u : Int)) hkl h)
          have VN := Lib.hid (fun h => vitF_no (N := N) (s := s) (t := (u : Int)) hkl h)
          obtain ⟨a, ha⟩ : ∃ a, a = L[k] := ⟨_, rfl⟩
          rw [← ha] at p1 p2 p3 VY VN
          obtain ⟨x, y, z⟩ := a
          simp only at p1 p2 p3 VY VN
          obtain ⟨l, hl⟩ : ∃ l, l = (vitF N L s u k).length := ⟨_, rfl⟩
          have HL := Lib.hid hl
          have hlk : l ≤ k := by rw [hl]; exact vitF_len N s u L k
          have j0 : (0 : Int) ≤ (k : Int) := by omega
          have j1 : (k : Int) < (n : Int) := by omega
          have hgw : w.heap.size < wr.heap.size := by omega
          clear hl ha
          go_wp2_with fail
          refine (l1Weigh_any N x y 0 _ n c L HN.out _ hm (K1.out.bl (((Bl.alloc_ (Bl.refl w) _).trans_ hbl).alloc_ _))).mono ?_
          rintro e w5 ⟨vv, rfl, hv5, hb5⟩
          rw [weighed0] at hv5
          obtain ⟨A3, c3, rfl, ha3, -⟩ := hv5.shape
          have HA3 := Lib.hid ha3
          have HR := Lib.hid (restL_ok (u := x) (v := y) HO.out)
          have hr150 := (okB_elim HR.out).2.2.1
          have HB5 := Lib.hid hb5
          clear hv5 ha3 hb5 q0 q1
          go_wp2_with fail
          refine (l3Dist_any N s A3 _ c3 (restL x y L) rfl HR.out hs0 hs1 _ (by omega) HA3.out).mono ?_
          rintro e w6 ⟨v, rfl, hv, hb6⟩
          have hl : (distL N (restL x y L) s).length = N.toNat := distL_len HR.out hs0 hs1
          obtain ⟨A7, c7, rfl, hc7, hi7, -, -⟩ := OwnN.shape hv
          obtain ⟨g7, o7, rfl, hg7, hcell⟩ := hi7.cell (by omega)
          have p := hcell u (by omega)
          have e1 : (distL N (restL x y L) s)[u]'(by omega) = detI N L s u x y := by
            unfold detI
            rw [if_pos HH.out]
            unfold dAt
            simp [hl]
            rw [List.getElem?_eq_getElem (by omega)]
            rfl
          rw [e1] at p
          have i2 : (u : Int) < ((distL N (restL x y L) s).length : Int) := by omega
          have HB6 := Lib.hid (HB5.out.trans_ hb6)
          clear hcell hv hi7 e1 hl hb6
          obtain ⟨b0, b1, b2⟩ := box3 HB6.out
          have WR := Lib.hid ((Bl.alloc_ (Bl.refl wr) _).trans_ HB6.out)
          have hs6 := WR.out.size
          have hs6' : wr.heap.size < w6.heap.size := by have := HB6.out.size; simp at this; omega
          generalize (distL N (restL x y L) s).length = dl at *
          cases hb : vitB N L s u x y with
          | true =>
            have hne : (detI N L s u x y != d) = true := by rw [HD.out]; exact hb
            have HV := Lib.hid (VY.out hb)
            have O6 := Lib.hid (show w6.ownsRow (w.heap.size + 1) 82 3 u7 l (cs3 (vitF N L s u k)) from by
              have h : OwnA w6 (w.heap.size + 1) u7 (vitF N L s u k) := OO.out.bl WR.out
              rw [HL.out]; exact h)
            have B6 := Lib.hid (BB.out.trans_ WR.out)
            clear hb VY VN
            go_wp2_with (at_builtin; refine wpList_append_own _ rfl (.tmp 63) (.tmp 65) _ rfl (w.heap.size + 1) 82 i0 _ 3 24 Try.underlying27 I0.out I1.out I2.out I3.out rfl (by decide) _ l (cs3 (vitF N L s u k)) rfl ?c0 ⟨w6.heap.size, 0, none⟩ 1 1 [.int .i64 x, .int .i64 y, .int .i64 z] rfl rfl ?c1 (one3 _ _ _) ?c3 ?c4 ?c5 ?_)
            case c0 => exact World.ownsRow.alloc O6.out _
            case c1 => have := new3 w6 (.int .i64 x) (.int .i64 y) (.int .i64 z) 82; simpa using this
            case c3 => unfold maxLen; omega
            case c4 => omega
            case c5 => simp; omega
            intro v2 w8 hown8 hg8 _
            have O8 := Lib.hid (show OwnA w8 (w.heap.size + 1) v2 (vitF N L s u (k + 1)) from by
              rw [HV.out]
              exact own_snoc (a := (x, y, z)) (by rw [← HL.out]; exact hown8))
            have B8 := Lib.hid ((B6.out.alloc_ _).grown_ hg8 (fun g hg => by have := (World.ownsRow.lt O6.out g hg).1; simp; omega))
            clear hown8 hg8
            go_wp2
            go_roundw
            case rel => exact ⟨k + 1, by omega, by go_num, O8.out, B8.out⟩
            case measure => simp [intOf]; omega
          | false =>
            have hne : (detI N L s u x y != d) = false := by rw [HD.out]; exact hb
            have HV := Lib.hid (VN.out hb)
            have O6 := Lib.hid (OO.out.bl WR.out)
            have B6 := Lib.hid (BB.out.trans_ WR.out)
            clear hb VY VN
            go_wp2
            go_roundw
            case rel => exact ⟨k + 1, by omega, by go_num, by rw [HV.out]; exact O6.out, B6.out⟩
            case measure => simp [intOf]; omega
        · obtain rfl : k = n := by omega
          have VA := Lib.hid (show vitF N L s u k = vitL N L s u from by rw [HN.out]; exact vitF_all HH.out (by rw [← HD.out]; exact hd0))
          go_wp2
          go_ret
          exact ⟨_, rfl, by rw [← VA.out]; exact OO.out.low (by omega), (Bl.alloc_ (Bl.refl w) _).trans_ hbl⟩
    · have hdd : decide (0 ≤ d) = false := by simpa using hd0
      have VN := Lib.hid (vitL_none (N := N) (L := L) (s := s) (t := (u : Int)) (.inr (by rw [← HD.out]; omega)))
      go_loopw [7, 9] (fun v i wr => i = .int .i64 0 ∧ OwnA wr (w.heap.size + 1) v [] ∧ Bl (w.alloc (.cells #[.int .i64 N, .slice A n c] 29)) wr) (fun _ i _ => 0)
      case atStart => exact ⟨rfl, O0.out _ HB4.out, BG.out _ HB4.out⟩
      case round =>
        obtain ⟨rfl, hO, hbl⟩ := hrel
        have OO := Lib.hid hO
        obtain ⟨q0, q1⟩ := box2 hbl
        clear hO
        go_wp2
        all_goals go_ret
        all_goals exact ⟨_, rfl, by rw [VN.out]; exact OO.out.low (by omega), (Bl.alloc_ (Bl.refl w) _).trans_ hbl⟩

end Go.Proofs.Ytelgjfflhcmljaa
