/-
  What is proved here: Detour of the model; impl.lacking leaves one arc out, and impl.Detour tells how far it is then; the walk of the exact law on Detour: at every graph and all numbers that can be read it returns true and leaves what was there as it was; at every graph and all numbers the exact law on Detour returns true, and the argument reads as it did. No conditions. No conditions beyond those that each theorem states.
-/
import Derived.Test.YtelgjfflhcmljaaNS2
import Derived.Test.YtelgjfflhcmljaaPDT
import Derived.Test.YtelgjfflhcmljaaG3
import Derived.Test.YtelgjfflhcmljaaG2w
import Derived.Test.YtelgjfflhcmljaaB1
import Derived.Test.YtelgjfflhcmljaaB0
set_option linter.unusedSimpArgs false
set_option linter.unusedVariables false
namespace Go.Proofs.Ytelgjfflhcmljaa
open Go.RowKit

set_option maxHeartbeats 1000000 in
theorem specDetour_any (N s t a b : Int) (A : Option Addr) (n c : Nat) (L : List Arc3) (hn : n = L.length) (hc : n ≤ c) (w : World) (hm : n ≤ 1048576) (H1 : ArcsAt w w.heap.size A L) :
    Calls Try.prog 18 #[.agg #[.int .i64 N, .slice A n c], .int .i64 s, .int .i64 t, .int .i64 a, .int .i64 b] w fun e w' => e = .returned (.int .i64 (detI N L s t a b)) ∧ Bl w w' := by
  have K1 := Lib.hid H1
  have HN := Lib.hid hn
  clear H1 hn
  cases ho : okB N L with
  | false =>
    have HO := Lib.hid ho
    clear ho
    go_enter Try.func18, Try.ntmps18
    go_wp2_with fail
    refine (specOk_any N A n c L HN.out _ (by omega) (K1.out.bl (by repeat' (first | exact Bl.refl _ | with_reducible assumption | with_reducible refine Bl.drew_ ?_ | with_reducible refine Bl.drewN_ ?_ _ | with_reducible refine Bl.alloc_ ?_ _ | with_reducible refine Bl.trans_ ?_ (by assumption) | with_reducible refine Bl.trans_ ?_ (And.left (by assumption)))))).mono ?_
    rintro e w1 ⟨rfl, hb1⟩
    rw [HO.out]
    go_wp2
    go_ret
    refine ⟨ret_int ?_, (by repeat' (first | exact Bl.refl _ | with_reducible assumption | with_reducible refine Bl.drew_ ?_ | with_reducible refine Bl.drewN_ ?_ _ | with_reducible refine Bl.alloc_ ?_ _ | with_reducible refine Bl.trans_ ?_ (by assumption) | with_reducible refine Bl.trans_ ?_ (And.left (by assumption))))⟩
    unfold detI has2
    rw [HO.out, Bool.false_and, if_neg (by simp)]
  | true =>
    have HO := Lib.hid ho
    have HNB := Lib.hid (nodeB_ok (v := s) ho)
    have HNT := Lib.hid (nodeB_ok (v := t) ho)
    clear ho
    by_cases hh : 0 ≤ s ∧ s < N
    · have h1 : decide (0 ≤ s ∧ s < N) = true := by simpa using hh
      have H1 := Lib.hid h1
      obtain ⟨hs0, hs1⟩ := hh
      clear h1
      by_cases hk : 0 ≤ t ∧ t < N
      · have h2 : decide (0 ≤ t ∧ t < N) = true := by simpa using hk
        have H2 := Lib.hid h2
        obtain ⟨ht0, ht1⟩ := hk
        clear h2
        obtain ⟨u, rfl⟩ : ∃ u : Nat, t = u := ⟨t.toNat, by omega⟩
        go_enter Try.func18, Try.ntmps18
        go_wp2_with fail
        refine (specOk_any N A n c L HN.out _ (by omega) (K1.out.bl (by repeat' (first | exact Bl.refl _ | with_reducible assumption | with_reducible refine Bl.drew_ ?_ | with_reducible refine Bl.drewN_ ?_ _ | with_reducible refine Bl.alloc_ ?_ _ | with_reducible refine Bl.trans_ ?_ (by assumption) | with_reducible refine Bl.trans_ ?_ (And.left (by assumption)))))).mono ?_
        rintro e w1 ⟨rfl, hb1⟩
        rw [HO.out]
        obtain ⟨q0, q1⟩ := box2 hb1
        go_wp2_with fail
        refine (l1Node_any N s _ _).mono ?_
        rintro e w2 ⟨rfl, hb2⟩
        rw [HNB.out, H1.out]
        have hb2 := hb1.trans_ hb2
        clear q0 q1
        obtain ⟨q0, q1⟩ := box2 hb2
        go_wp2_with fail
        refine (l1Node_any N u _ _).mono ?_
        rintro e w3 ⟨rfl, hb3⟩
        rw [HNT.out, H2.out]
        have hb3 := hb2.trans_ hb3
        clear q0 q1
        obtain ⟨q0, q1⟩ := box2 hb3
        have hbw : Bl w w3 := (Bl.alloc_ (Bl.refl w) _).trans_ hb3
        clear hb1 hb2 hb3
        go_wp2_with fail
        refine (l1Weigh_any N a b 0 A n c L HN.out _ hm (K1.out.bl hbw)).mono ?_
        rintro e w3' ⟨vv, rfl, hv, hb3'⟩
        rw [weighed0] at hv
        obtain ⟨A3, c3, rfl, ha3, -⟩ := hv.shape
        have HA3 := Lib.hid ha3
        have HR := Lib.hid (restL_ok (u := a) (v := b) HO.out)
        have hr150 := (okB_elim HR.out).2.2.1
        have hbw := hbw.trans_ hb3'
        clear hv ha3 hb3' q0 q1
        go_wp2_with fail
        refine (l3Dist_any N s A3 _ c3 (restL a b L) rfl HR.out hs0 hs1 _ (by omega) HA3.out).mono ?_
        rintro e w4 ⟨v, rfl, hv, hb4⟩
        have hl : (distL N (restL a b L) s).length = N.toNat := distL_len HR.out hs0 hs1
        obtain ⟨A5, c5, rfl, hc5, hi5, -, -⟩ := OwnN.shape hv
        obtain ⟨g5, o5, rfl, hg5, hcell⟩ := hi5.cell (by omega)
        have p := hcell u (by omega)
        have e1 : (distL N (restL a b L) s)[u]'(by omega) = detI N L s u a b := by
          unfold detI has2
          rw [HO.out, Bool.true_and, if_pos (by simp; omega)]
          unfold dAt
          simp [hl]
          rw [List.getElem?_eq_getElem (by omega)]
          rfl
        rw [e1] at p
        have i1 : (0 : Int) ≤ (u : Int) := by omega
        have i2 : (u : Int) < ((distL N (restL a b L) s).length : Int) := by omega
        clear hcell hv hi5 e1 hl
        generalize (distL N (restL a b L) s).length = dl at *
        go_wp2
        go_ret
        exact ⟨ret_int rfl, hbw.trans_ hb4⟩
      · have h2 : decide (0 ≤ t ∧ t < N) = false := by simpa using hk
        have H2 := Lib.hid h2
        clear h2
        go_enter Try.func18, Try.ntmps18
        go_wp2_with fail
        refine (specOk_any N A n c L HN.out _ (by omega) (K1.out.bl (by repeat' (first | exact Bl.refl _ | with_reducible assumption | with_reducible refine Bl.drew_ ?_ | with_reducible refine Bl.drewN_ ?_ _ | with_reducible refine Bl.alloc_ ?_ _ | with_reducible refine Bl.trans_ ?_ (by assumption) | with_reducible refine Bl.trans_ ?_ (And.left (by assumption)))))).mono ?_
        rintro e w1 ⟨rfl, hb1⟩
        rw [HO.out]
        obtain ⟨q0, q1⟩ := box2 hb1
        go_wp2_with fail
        refine (l1Node_any N s _ _).mono ?_
        rintro e w2 ⟨rfl, hb2⟩
        rw [HNB.out, H1.out]
        have hb2 := hb1.trans_ hb2
        clear q0 q1
        obtain ⟨q0, q1⟩ := box2 hb2
        go_wp2_with fail
        refine (l1Node_any N t _ _).mono ?_
        rintro e w3 ⟨rfl, hb3⟩
        rw [HNT.out, H2.out]
        have hb3 := hb2.trans_ hb3
        have hbw : Bl w w3 := (Bl.alloc_ (Bl.refl w) _).trans_ hb3
        clear hb1 hb2 hb3 q0 q1
        go_wp2
        go_ret
        refine ⟨ret_int ?_, hbw⟩
        unfold detI has2
        rw [if_neg]
        intro h
        simp at h
        exact hk h.2.2
    · have h1 : decide (0 ≤ s ∧ s < N) = false := by simpa using hh
      have H1 := Lib.hid h1
      clear h1
      go_enter Try.func18, Try.ntmps18
      go_wp2_with fail
      refine (specOk_any N A n c L HN.out _ (by omega) (K1.out.bl (by repeat' (first | exact Bl.refl _ | with_reducible assumption | with_reducible refine Bl.drew_ ?_ | with_reducible refine Bl.drewN_ ?_ _ | with_reducible refine Bl.alloc_ ?_ _ | with_reducible refine Bl.trans_ ?_ (by assumption) | with_reducible refine Bl.trans_ ?_ (And.left (by assumption)))))).mono ?_
      rintro e w1 ⟨rfl, hb1⟩
      rw [HO.out]
      obtain ⟨q0, q1⟩ := box2 hb1
      go_wp2_with fail
      refine (l1Node_any N s _ _).mono ?_
      rintro e w2 ⟨rfl, hb2⟩
      rw [HNB.out, H1.out]
      have hb2 := hb1.trans_ hb2
      have hbw : Bl w w2 := (Bl.alloc_ (Bl.refl w) _).trans_ hb2
      clear hb1 hb2 q0 q1
      go_wp2
      go_ret
      refine ⟨ret_int ?_, hbw⟩
      unfold detI has2
      rw [if_neg]
      intro h
      simp at h
      exact hh h.2.1

end Go.Proofs.Ytelgjfflhcmljaa

set_option linter.unusedSimpArgs false
set_option linter.unusedVariables false
namespace Go.Proofs.Ytelgjfflhcmljaa
open Go.RowKit

/-- A graph is told whose arcs can be read. -/
def GraphAt (N : Int) (M : List Arc3) (w : World) (e : Ending) (w' : World) : Prop :=
  ∃ A n c, e = .returned (.agg #[.int .i64 N, .slice A n c]) ∧ n = M.length ∧ n ≤ c ∧ ArcsAt w' w'.heap.size A M ∧ Bl w w'

theorem OwnA.cap_ {w : World} {B : Nat} {A : Option Addr} {n c : Nat} {L : List Arc3} (h : OwnA w B (.slice A n c) L) : L.length ≤ c := by
  have h' : w.ownsRow B 82 3 (.slice A n c) L.length (cs3 L) := h
  rcases h'.2 with ⟨e, h0⟩ | ⟨g, cap, cur, e, _, _, hnc, _⟩
  · omega
  · injection e with e1 e2 e3
    omega
set_option maxRecDepth 100000 in
set_option maxHeartbeats 1000000 in
theorem lacking_any (N u v : Int) (A : Option Addr) (n c : Nat) (L : List Arc3) (hn : n = L.length) (hnc : n ≤ c) (hcc : c ≤ 9223372036854775807) (ho : okB N L = true) (w : World) (hm : n ≤ 1048576) (H1 : ArcsAt w w.heap.size A L) :
    Calls Try.prog 86 #[.agg #[.int .i64 N, .slice A n c], .int .i64 u, .int .i64 v] w (GraphAt N (restL u v L) w) := by
  have K1 := Lib.hid H1
  have HN := Lib.hid hn
  have HO := Lib.hid ho
  clear H1 hn ho
  cases hp : pairB N u v with
  | false =>
    have HP := Lib.hid hp
    clear hp
    go_enter Try.func86, Try.ntmps86
    go_wp2_with fail
    refine (implWeighedW_any N u v 0 A n c L HN.out hnc hcc _ hm (K1.out.bl (by repeat' (first | exact Bl.refl _ | with_reducible assumption | with_reducible refine Bl.drew_ ?_ | with_reducible refine Bl.drewN_ ?_ _ | with_reducible refine Bl.alloc_ ?_ _ | with_reducible refine Bl.trans_ ?_ (by assumption) | with_reducible refine Bl.trans_ ?_ (And.left (by assumption)))))).mono ?_
    rintro e w1 ⟨v1, he, hv1, hb1⟩
    rw [weighedB0 HO.out, HP.out, if_neg (by simp)] at he hv1
    subst he
    have B1 : Bl w w1 := (Bl.alloc_ (Bl.alloc_ (Bl.refl w) _) _).trans_ hb1
    obtain ⟨A1, c1, rfl, -, -⟩ := hv1.shape
    obtain ⟨h00, h01, h10, h11, f10, f11, hsz⟩ := box22 hb1
    have hsw : w.heap.size < w1.heap.size := by omega
    clear hv1
    go_wp2
    refine bodyPost_ret (v := .agg #[.int .i64 N, .slice A n c]) (by simp [results, Try.results86, go_sem, h10, h11, f10, f11, hsz]) rfl ?_
    refine (fun (B2 : Bl w _) => ⟨A, n, c, rfl, by rw [restL_nopair HO.out HP.out]; exact HN.out, hnc, by rw [restL_nopair HO.out HP.out]; exact K1.out.bl B2, B2⟩) ?_
    exact Bl.alloc_ (Bl.set_ (Bl.set_ B1 (Nat.le_succ _) _) (Nat.le_succ _) _) _
  | true =>
    have HP := Lib.hid hp
    clear hp
    go_enter Try.func86, Try.ntmps86
    go_wp2_with fail
    refine (implWeighedW_any N u v 0 A n c L HN.out hnc hcc _ hm (K1.out.bl (by repeat' (first | exact Bl.refl _ | with_reducible assumption | with_reducible refine Bl.drew_ ?_ | with_reducible refine Bl.drewN_ ?_ _ | with_reducible refine Bl.alloc_ ?_ _ | with_reducible refine Bl.trans_ ?_ (by assumption) | with_reducible refine Bl.trans_ ?_ (And.left (by assumption)))))).mono ?_
    rintro e w1 ⟨v1, he, hv1, hb1⟩
    rw [weighedB0 HO.out, HP.out, if_pos rfl] at he hv1
    subst he
    rw [weighed0] at hv1
    have B1 : Bl w w1 := (Bl.alloc_ (Bl.alloc_ (Bl.refl w) _) _).trans_ hb1
    obtain ⟨A1, c1, rfl, -, -⟩ := hv1.shape
    obtain ⟨h00, h01, h10, h11, f10, f11, hsz⟩ := box22 hb1
    have V := Lib.hid (hv1.low (B := w.heap.size + 2) (by simp))
    clear hv1
    go_wp2
    refine bodyPost_ret (v := .agg #[.int .i64 N, .slice A1 (restL u v L).length c1]) (by simp [results, Try.results86, go_sem, h10, h11, f10, f11, hsz]) rfl ?_
    have V2 := (OwnA.set_ (OwnA.set_ V.out (p := ⟨w.heap.size + 1, 0, none⟩) (by show w.heap.size + 1 < _; omega) (.int .i64 N)) (p := ⟨w.heap.size + 1, 1, none⟩) (by show w.heap.size + 1 < _; omega) (.slice A1 (restL u v L).length c1)).bl (Bl.alloc_ (Bl.refl _) (.cells #[.int .i64 N, .slice A1 (restL u v L).length c1] 29))
    obtain ⟨A2, c2, e2, ha2, -⟩ := V2.shape
    injection e2 with e3 e4 e5
    subst e3
    exact ⟨A1, _, c1, rfl, rfl, V2.cap_, ha2, Bl.alloc_ (Bl.set_ (Bl.set_ B1 (Nat.le_succ _) _) (Nat.le_succ _) _) _⟩

set_option maxRecDepth 100000 in
set_option maxHeartbeats 1000000 in
theorem implDetour_any (N s t u v : Int) (A : Option Addr) (n c : Nat) (L : List Arc3) (hn : n = L.length) (hc : n ≤ c) (hcc : c ≤ 9223372036854775807) (w : World) (hm : n ≤ 1048576) (H1 : ArcsAt w w.heap.size A L) :
    Calls Try.prog 20 #[.agg #[.int .i64 N, .slice A n c], .int .i64 s, .int .i64 t, .int .i64 u, .int .i64 v] w fun e w' => e = .returned (.int .i64 (detI N L s t u v)) ∧ Bl w w' := by
  have K1 := Lib.hid H1
  have HN := Lib.hid hn
  clear H1 hn
  cases hh : has2 N L s t with
  | false =>
    have HH := Lib.hid hh
    clear hh
    go_enter Try.func20, Try.ntmps20
    go_wp2_with fail
    refine (hasNodes_2 N s t A n c L HN.out (w.heap.size + 1) 2 _ (by omega) (K1.out.bl (by repeat' (first | exact Bl.refl _ | with_reducible assumption | with_reducible refine Bl.drew_ ?_ | with_reducible refine Bl.drewN_ ?_ _ | with_reducible refine Bl.alloc_ ?_ _ | with_reducible refine Bl.trans_ ?_ (by assumption) | with_reducible refine Bl.trans_ ?_ (And.left (by assumption))))) (by simp) (by simp [go_sem]) (by simp [go_sem])).mono ?_
    rintro e w1 ⟨rfl, hb1⟩
    rw [HH.out]
    go_wp2
    go_ret
    exact ⟨ret_int (by unfold detI; rw [if_neg (by rw [HH.out]; simp)]), (by repeat' (first | exact Bl.refl _ | with_reducible assumption | with_reducible refine Bl.drew_ ?_ | with_reducible refine Bl.drewN_ ?_ _ | with_reducible refine Bl.alloc_ ?_ _ | with_reducible refine Bl.trans_ ?_ (by assumption) | with_reducible refine Bl.trans_ ?_ (And.left (by assumption))))⟩
  | true =>
    have HH := Lib.hid hh
    obtain ⟨ho, ⟨hs0, hs1⟩, ht0, ht1⟩ := has2_of hh
    have hN24 := (okB_elim ho).2.1
    have HO := Lib.hid ho
    have HR := Lib.hid (restL_ok (u := u) (v := v) ho)
    obtain ⟨q, rfl⟩ : ∃ q : Nat, t = q := ⟨t.toNat, by omega⟩
    clear hh ho
    go_enter Try.func20, Try.ntmps20
    go_wp2_with fail
    refine (hasNodes_2 N s q A n c L HN.out (w.heap.size + 1) 2 _ (by omega) (K1.out.bl (by repeat' (first | exact Bl.refl _ | with_reducible assumption | with_reducible refine Bl.drew_ ?_ | with_reducible refine Bl.drewN_ ?_ _ | with_reducible refine Bl.alloc_ ?_ _ | with_reducible refine Bl.trans_ ?_ (by assumption) | with_reducible refine Bl.trans_ ?_ (And.left (by assumption))))) (by simp) (by simp [go_sem]) (by simp [go_sem])).mono ?_
    rintro e w1 ⟨rfl, hb1⟩
    rw [HH.out]
    have hx := (bcell hb1).1
    have q0 : w1.cell? ⟨w.heap.size, 0, none⟩ = some (.int .i64 N) := (hx _ _ (by simp; omega)).trans (by simp [go_sem])
    have q1 : w1.cell? ⟨w.heap.size, 1, none⟩ = some (.slice A n c) := (hx _ _ (by simp; omega)).trans (by simp [go_sem])
    have hbw : Bl w w1 := (((Bl.refl w).alloc_ _).alloc_ _).trans_ hb1
    clear hx hb1
    go_wp2_with fail
    refine (lacking_any N u v A n c L HN.out hc hcc HO.out _ hm (K1.out.bl hbw)).mono ?_
    rintro e w2 ⟨A2, n2, c2, rfl, hn2, hc2, ha2, hb2⟩
    have HN2 := Lib.hid hn2
    have HA2 := Lib.hid ha2
    have hbw2 := hbw.trans_ hb2
    clear hn2 ha2 hb2 q0 q1
    go_wp2_with fail
    refine (distances_any N s A2 n2 c2 (restL u v L) HN2.out hc2 HR.out hs0 hs1 _ HA2.out).mono ?_
    rintro e w3 ⟨E, rfl, hE, hEd, hb3⟩
    have EL := Lib.hid hE
    have ED := Lib.hid hEd
    clear hE hEd
    have hix := index24 E EL.out q (by omega) w3
    have hd : dAt E (q : Int) = detI N L s q u v := by
      unfold detI
      rw [if_pos HH.out, ← ED.out]
      unfold dAt
      simp only [List.getD_eq_getElem?_getD]
      rw [List.getElem?_take, if_pos (by omega)]
    rw [hd] at hix
    clear hd
    go_wp2
    go_ret
    exact ⟨ret_int rfl, hbw2.trans_ hb3⟩

end Go.Proofs.Ytelgjfflhcmljaa

set_option linter.unusedSimpArgs false
set_option linter.unusedVariables false
namespace Go.Proofs.Ytelgjfflhcmljaa
open Go.RowKit

set_option maxHeartbeats 1000000 in
theorem lawDetour_any (N s t u v : Int) (A : Option Addr) (n c : Nat) (L : List Arc3) (hn : n = L.length) (w : World) (hm : n ≤ 9223372036854775807) (H1 : ArcsAt w w.heap.size A L) :
    Calls Try.prog 3 #[.agg #[.int .i64 N, .slice A n c], .int .i64 s, .int .i64 t, .int .i64 u, .int .i64 v] w fun e w' => e = .returned (.bool true) ∧ Bl w w' := by
  have K1 := Lib.hid H1
  have HN := Lib.hid hn
  clear H1 hn
  by_cases hbig : (1048576 : Int) - n < 0
  · go_enter Try.func3, Try.ntmps3
    go_wp2_with (go_at_call 17; refine (szGraph_any _ _ _ _ _ _ hm (by omega) (by omega)).mono ?_; rintro e w' ⟨rfl, hb⟩; obtain ⟨hc, hf⟩ := bcell hb)
    go_ret
    exact ⟨rfl, (by repeat' (first | exact Bl.refl _ | with_reducible assumption | with_reducible refine Bl.drew_ ?_ | with_reducible refine Bl.drewN_ ?_ _ | with_reducible refine Bl.alloc_ ?_ _ | with_reducible refine Bl.trans_ ?_ (by assumption) | with_reducible refine Bl.trans_ ?_ (And.left (by assumption))))⟩
  · have hm' : n ≤ 1048576 := by omega
    clear hbig
    go_enter Try.func3, Try.ntmps3
    go_wp2_with fail
    refine (szGraph_small N A n c _ hm').mono ?_
    rintro e w1 ⟨rfl, hb1⟩
    obtain ⟨q0, q1⟩ := box2 hb1
    have p1 : (0 : Int) ≤ 1048576 - (n : Int) := by omega
    go_wp2_with fail
    refine (toGraph_any N A n c L HN.out _ hm' (K1.out.bl (by repeat' (first | exact Bl.refl _ | with_reducible assumption | with_reducible refine Bl.drew_ ?_ | with_reducible refine Bl.drewN_ ?_ _ | with_reducible refine Bl.alloc_ ?_ _ | with_reducible refine Bl.trans_ ?_ (by assumption) | with_reducible refine Bl.trans_ ?_ (And.left (by assumption)))))).mono ?_
    rintro e w2 ⟨g2, rfl, ha2, hg2, hb2⟩
    have hb2 := hb1.trans_ hb2
    obtain ⟨q0, q1⟩ := box2 hb2
    have HA2 := Lib.hid ha2
    clear ha2
    go_wp2_with fail
    refine (specDetour_any N s t u v _ n n L HN.out (Nat.le_refl _) _ hm' HA2.out).mono ?_
    rintro e w3 ⟨rfl, hb3⟩
    have hb3 := hb2.trans_ hb3
    obtain ⟨q0, q1⟩ := box2 hb3
    go_wp2_with fail
    refine (toGraph_any N A n c L HN.out _ hm' (K1.out.bl (by repeat' (first | exact Bl.refl _ | with_reducible assumption | with_reducible refine Bl.drew_ ?_ | with_reducible refine Bl.drewN_ ?_ _ | with_reducible refine Bl.alloc_ ?_ _ | with_reducible refine Bl.trans_ ?_ (by assumption) | with_reducible refine Bl.trans_ ?_ (And.left (by assumption)))))).mono ?_
    rintro e w4 ⟨g4, rfl, ha4, hg4, hb4⟩
    have hb4 := hb3.trans_ hb4
    obtain ⟨q0, q1⟩ := box2 hb4
    have HA4 := Lib.hid ha4
    clear ha4
    go_wp2_with fail
    refine (implDetour_any N s t u v _ n n L HN.out (Nat.le_refl _) (by omega) _ hm' (HA4.out.bl (by repeat' (first | exact Bl.refl _ | with_reducible assumption | with_reducible refine Bl.drew_ ?_ | with_reducible refine Bl.drewN_ ?_ _ | with_reducible refine Bl.alloc_ ?_ _ | with_reducible refine Bl.trans_ ?_ (by assumption) | with_reducible refine Bl.trans_ ?_ (And.left (by assumption)))))).mono ?_
    rintro e w5 ⟨rfl, hb5⟩
    obtain ⟨x0, x1⟩ := box2 hb5
    have hb5a := (Bl.alloc_ (Bl.refl w4) _).trans_ hb5
    have HA5 := Lib.hid (ArcsAt.bl HA4.out hb5a)
    have hB5 := hb4.trans_ hb5a
    obtain ⟨q0, q1⟩ := box2 hB5
    have hne : (detI N L s t u v != detI N L s t u v) = false := by simp
    have HSH := Lib.hid (show ∀ wx, Bl w5 wx → Bl w5 wx ∧ wx.cell? ⟨w.heap.size, 0, none⟩ = some (.int .i64 N) ∧ wx.cell? ⟨w.heap.size, 1, none⟩ = some (.slice A n c) ∧ wx.cell? ⟨w4.heap.size, 0, none⟩ = some (.int .i64 N) ∧ wx.cell? ⟨w4.heap.size, 1, none⟩ = some (.slice (some ⟨g4, 0, none⟩) n n) from fun wx hb =>
      ⟨hb, (box2 (hB5.trans_ hb)).1, (box2 (hB5.trans_ hb)).2, (box2 (hb5.trans_ hb)).1, (box2 (hb5.trans_ hb)).2⟩)
    go_wp2_with fail
    refine wp_region_held_drew (S := fun wx => Bl w5 wx ∧ wx.cell? ⟨w.heap.size, 0, none⟩ = some (.int .i64 N) ∧ wx.cell? ⟨w.heap.size, 1, none⟩ = some (.slice A n c) ∧ wx.cell? ⟨w4.heap.size, 0, none⟩ = some (.int .i64 N) ∧ wx.cell? ⟨w4.heap.size, 1, none⟩ = some (.slice (some ⟨g4, 0, none⟩) n n)) (by kernel_rfl) ?_ (fun hHeld => ?_)
    · (exact HSH.out _ (by repeat' (first | exact Bl.refl _ | with_reducible assumption | with_reducible refine Bl.drew_ ?_ | with_reducible refine Bl.drewN_ ?_ _ | with_reducible refine Bl.alloc_ ?_ _ | with_reducible refine Bl.trans_ ?_ (by assumption) | with_reducible refine Bl.trans_ ?_ (And.left (by assumption)))))
    refine wpAnyH_take (i := 0) (v := ?_) rfl (by kernel_rfl) (by kernel_rfl) (by kernel_rfl) (fun _ _ _ h => h) (Or.inl ⟨by kernel_rfl, ?_⟩) (by assumption) ?_
    rotate_left
    · (intro wx hSw; (try dsimp only at hSw); go_simp; try (with_reducible rfl))
    try simp only [Act.put, List.getElem_toArray, List.getElem_cons_succ, List.getElem_cons_zero, List.setIfInBounds_toArray, List.set_cons_zero, List.set_cons_succ]
    refine wpAnyH_take (i := 1) (v := ?_) rfl (by kernel_rfl) (by kernel_rfl) (by kernel_rfl) (fun _ _ _ h => h) (Or.inl ⟨by kernel_rfl, ?_⟩) (by assumption) ?_
    rotate_left
    · (intro wx hSw; (try dsimp only at hSw); go_simp; try (with_reducible rfl))
    try simp only [Act.put, List.getElem_toArray, List.getElem_cons_succ, List.getElem_cons_zero, List.setIfInBounds_toArray, List.set_cons_zero, List.set_cons_succ]
    refine wpAnyH_ready (rs := [2]) (by kernel_rfl) (by simp) ?_
    refine AllReadyH.cons rfl (fun K hK => ?_) AllReadyH.nil
    go_simp
    (go_at_call 19; refine (toGraph_any N A n c L HN.out _ hm' (K1.out.bl (by repeat' (first | exact Bl.refl _ | with_reducible assumption | with_reducible refine Bl.drew_ ?_ | with_reducible refine Bl.drewN_ ?_ _ | with_reducible refine Bl.alloc_ ?_ _ | with_reducible refine Bl.trans_ ?_ (by assumption) | with_reducible refine Bl.trans_ ?_ (And.left (by assumption)))))).mono ?_; rintro e w6 ⟨g6, rfl, ha6, hg6, hb6⟩; have HA6 := Lib.hid ha6; clear ha6)
    try (go_wp2_with fail)
    refine hK.out _ _ ?_ (fun hHeld => ?_)
    · (exact HSH.out _ (by repeat' (first | exact Bl.refl _ | with_reducible assumption | with_reducible refine Bl.drew_ ?_ | with_reducible refine Bl.drewN_ ?_ _ | with_reducible refine Bl.alloc_ ?_ _ | with_reducible refine Bl.trans_ ?_ (by assumption) | with_reducible refine Bl.trans_ ?_ (And.left (by assumption)))))
    clear hK K
    try simp only [Act.put, List.getElem_toArray, List.getElem_cons_succ, List.getElem_cons_zero, List.setIfInBounds_toArray, List.set_cons_zero, List.set_cons_succ]
    refine wpAnyH_ready (rs := [3]) (by kernel_rfl) (by simp) ?_
    refine AllReadyH.cons rfl (fun K hK => ?_) AllReadyH.nil
    go_simp
    (go_at_call 21; refine (eqGraph_yes N _ _ n n L n HN.out _ hm (HA5.out.bl (by repeat' (first | exact Bl.refl _ | with_reducible assumption | with_reducible refine Bl.drew_ ?_ | with_reducible refine Bl.drewN_ ?_ _ | with_reducible refine Bl.alloc_ ?_ _ | with_reducible refine Bl.trans_ ?_ (by assumption) | with_reducible refine Bl.trans_ ?_ (And.left (by assumption))))) HA6.out).mono ?_; rintro e w7 ⟨rfl, hb7⟩)
    try (go_wp2_with fail)
    refine hK.out _ _ ?_ (fun hHeld => ?_)
    · (exact HSH.out _ (by repeat' (first | exact Bl.refl _ | with_reducible assumption | with_reducible refine Bl.drew_ ?_ | with_reducible refine Bl.drewN_ ?_ _ | with_reducible refine Bl.alloc_ ?_ _ | with_reducible refine Bl.trans_ ?_ (by assumption) | with_reducible refine Bl.trans_ ?_ (And.left (by assumption)))))
    clear hK K
    try simp only [Act.put, List.getElem_toArray, List.getElem_cons_succ, List.getElem_cons_zero, List.setIfInBounds_toArray, List.set_cons_zero, List.set_cons_succ]
    refine wpAnyH_take (i := 4) (v := ?_) rfl (by kernel_rfl) (by kernel_rfl) (by kernel_rfl) (fun _ _ _ h => h) (Or.inl ⟨by kernel_rfl, ?_⟩) (by assumption) ?_
    rotate_left
    · (intro wx hSw; (try dsimp only at hSw); go_simp; try (with_reducible rfl))
    try simp only [Act.put, List.getElem_toArray, List.getElem_cons_succ, List.getElem_cons_zero, List.setIfInBounds_toArray, List.set_cons_zero, List.set_cons_succ]
    refine wpAnyH_done (by kernel_rfl) ?_ _
    go_wp2
    go_ret
    exact ⟨rfl, (by repeat' (first | exact Bl.refl _ | with_reducible assumption | with_reducible refine Bl.drew_ ?_ | with_reducible refine Bl.drewN_ ?_ _ | with_reducible refine Bl.alloc_ ?_ _ | with_reducible refine Bl.trans_ ?_ (by assumption) | with_reducible refine Bl.trans_ ?_ (And.left (by assumption))))⟩


end Go.Proofs.Ytelgjfflhcmljaa

set_option linter.unusedSimpArgs false
set_option linter.unusedVariables false
namespace Go.Proofs.Ytelgjfflhcmljaa
open Go.ChangeShapes Go.WideShapes Go.ChangeAt Go.RowKit

set_option maxRecDepth 100000 in
theorem fnExactDetour_lifted (os : Os) (started : os.Started) (H : Type) (enc : TypeId × Value → H) :
    ReturnsInHanded {} Try.checked os 3 .any (Rows.fnExactDetourSpec.pre6 enc Try.prog Try.f3 Rows.fnExactDetourRow.domain false) (Rows.fnExactDetourSpec.post enc Try.prog Try.f3 false true false false) := by
  refine returnsInHanded_of_change (C := Try.checked) Try.own_ started (by kernel_rfl) Try.func3
    (ChangeSpec.witness6 (enc := enc) (C := Try.checked) false ⟨#[], #[.agg #[.int .i64 0, .slice none 0 0], .int .i64 0, .int .i64 0, .int .i64 0, .int .i64 0], []⟩ 8 (by kernel_rfl) (by kernel_rfl) (by kernel_rfl) (by kernel_rfl)) ?_
  intro W base args ds gs before hval0 hW hcnd _
  have hval : ∀ (j : Nat) t v, Try.f3.params[j]? = some t → args[j]? = some v → Value.okWide Try.prog W .any base t v := hval0
  have hW' := hW
  obtain ⟨p, q, hA0, hV, rfl, hfz, hnd⟩ := hW
  have hA : DataW.TrodAll enc Try.prog W 0 (fun _ => true) true Try.f3.params.toList args.toList ds p := hA0
  rw [Try.params3] at hA hval
  obtain ⟨v0, vs0, d0, ds0, p0, q0, hargs, rfl, rfl, h0, r0⟩ := trodAll_cons hA
  obtain ⟨v1, vs1, d1, ds1, p1, q1, rfl, rfl, rfl, h1, r1⟩ := trodAll_cons r0
  obtain ⟨v2, vs2, d2, ds2, p2, q2, rfl, rfl, rfl, h2, r2⟩ := trodAll_cons r1
  obtain ⟨v3, vs3, d3, ds3, p3, q3, rfl, rfl, rfl, h3, r3⟩ := trodAll_cons r2
  obtain ⟨v4, vs4, d4, ds4, p4, q4, rfl, rfl, rfl, h4, r4⟩ := trodAll_cons r3
  obtain ⟨rfl, rfl, rfl⟩ := trodAll_nil r4
  obtain rfl : args = #[v0, v1, v2, v3, v4] := by cases args; simp_all
  obtain ⟨rfl, rfl⟩ := trodVars_none hV
  have k0 := h0
  have lt0 : ∀ x ∈ p0, x.block < W.heap.size := by obtain ⟨m, hm⟩ := k0; exact DataW.trod_lt m _ _ _ hm
  obtain ⟨N, A, n, c, L, rfl, hn, hm, hL⟩ := open_graph (hval 0 24 v0 rfl rfl) h0
  obtain ⟨x1, rfl, rfl, rfl, wx1⟩ := open_int Try.underlying2 (hval 1 2 v1 rfl rfl) h1
  obtain ⟨x2, rfl, rfl, rfl, wx2⟩ := open_int Try.underlying2 (hval 2 2 v2 rfl rfl) h2
  obtain ⟨x3, rfl, rfl, rfl, wx3⟩ := open_int Try.underlying2 (hval 3 2 v3 rfl rfl) h3
  obtain ⟨x4, rfl, rfl, rfl, wx4⟩ := open_int Try.underlying2 (hval 4 2 v4 rfl rfl) h4
  clear hA0 hval0
  refine (lawDetour_any N x1 x2 x3 x4 A n c L hn W hm hL).mono fun e W' ⟨he, bel0⟩ => ?_
  have bel : Below W.heap.size W W' := bel0
  subst he
  exact ⟨_, rfl, _, _, _, [], _, [], hW', trodAll_mk1 (shut_bool Try.underlying4 _), (trodAll_cons_mk (Below.trod Try.laidOut_ (by kernel_rfl) (of_decide_eq_true (by kernel_rfl)) k0 bel lt0) (trodAll_cons_mk (shut_int Try.underlying2 wx1) (trodAll_cons_mk (shut_int Try.underlying2 wx2) (trodAll_cons_mk (shut_int Try.underlying2 wx3) (trodAll_cons_mk (shut_int Try.underlying2 wx4) trodAll_mk0))))), rfl, bel.frame _, fun h => by cases h⟩

theorem fnExactDetour_holds : Rows.FnExactDetourSaid :=
  OpenClaim.holds_of_wide 3 Try.f3 rfl rfl rfl rfl rfl rfl rfl ⟨rfl, rfl, rfl, rfl, rfl⟩ rfl rfl rfl rfl rfl (by kernel_rfl) Try.func3 (by kernel_rfl)
    (of_decide_eq_true (by kernel_rfl)) (by unfold Func.isWrapper; first | (rw [if_pos (by decide +kernel)]; kernel_rfl) | (rw [if_neg (by decide +kernel)]; exact ⟨rfl, rfl⟩))
    (fun os started H enc _ => fnExactDetour_lifted os started H enc)

end Go.Proofs.Ytelgjfflhcmljaa
