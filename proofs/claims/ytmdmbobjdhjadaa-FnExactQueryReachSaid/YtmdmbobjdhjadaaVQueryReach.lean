/-
  What is proved here: spec.Reversed turns the arcs of a right graph and puts them in order, as the model does; which nodes reaches leave, told; the model's Pruned and QueryReach; plain facts: among the nodes that reaches leave it is as far from the one to the other; impl.leftBy tells the nodes that reaches leave; impl.reachAsked; the code's reachAsked and Pruned; the code's among and QueryReach, the model's QueryReach; the walk of the exact law on QueryReach: at every graph and all numbers that can be read it returns true and leaves what was there as it was. No conditions beyond those that each theorem states.
-/
import Derived.Test.YtmdmbobjdhjadaaTW
import Derived.Test.YtmdmbobjdhjadaaVC
import Derived.Test.YtmdmbobjdhjadaaVA
import Derived.Test.YtmdmbobjdhjadaaB1
set_option linter.unusedSimpArgs false
set_option linter.unusedVariables false
namespace Go.Proofs.Ytmdmbobjdhjadaa
open Go.RowKit

set_option maxRecDepth 100000 in
set_option maxHeartbeats 4000000 in
theorem l1Reverse_any (N : Int) (A : Option Addr) (n c : Nat) (L : List Arc3) (hn : n = L.length) (w : World) (hm : n ≤ 1048576) (H1 : ArcsAt w w.heap.size A L) :
    Calls Try.prog 89 #[.agg #[.int .i64 N, .slice A n c]] w (GraphMade1 N (revL L) w) := by
  have K1 := Lib.hid H1
  have HN := Lib.hid hn
  clear H1 hn
  have T0 := Lib.hid (show TS w (.cells #[.int .i64 N, .slice A n c] 42) (w.heap.size + 1) (w.heap.size + 2) N (.slice none 0 0) [] (((w.alloc (.cells #[.int .i64 N, .slice A n c] 42)).alloc (.cells #[.int .i64 0, .slice none 0 0] 42)).alloc (.cells #[.int .i64 N, .slice none 0 0] 42)) from by
    refine ⟨?_, ?_, OwnA.nil_ _ _, (by repeat' (first | exact Bl.refl _ | with_reducible assumption | with_reducible refine Bl.drew_ ?_ | with_reducible refine Bl.drewN_ ?_ _ | with_reducible refine Bl.alloc_ ?_ _ | with_reducible refine Bl.trans_ ?_ (by assumption) | with_reducible refine Bl.trans_ ?_ (And.left (by assumption)))), by omega, by omega⟩
    · have := Two.new ((w.alloc (.cells #[.int .i64 N, .slice A n c] 42)).alloc (.cells #[.int .i64 0, .slice none 0 0] 42)) (.int .i64 N) (.slice none 0 0)
      simpa using this
    · have := Two.new (w.alloc (.cells #[.int .i64 N, .slice A n c] 42)) (.int .i64 0) (.slice none 0 0)
      have := this.bl (Bl.alloc_ (Bl.refl _) (.cells #[.int .i64 N, .slice none 0 0] 42))
      simpa using this)
  go_enter Try.func89, Try.ntmps89
  go_wp2_with fail
  go_loopw [4] (fun i wr => ∃ (k : Nat) (q : Value), k ≤ n ∧ i = .int .i64 k ∧ TS w (.cells #[.int .i64 N, .slice A n c] 42) (w.heap.size + 1) (w.heap.size + 2) N q (revK L k) wr) (fun i _ => n - (intOf i).toNat)
  case atStart => exact ⟨0, _, by omega, rfl, T0.out⟩
  case round =>
    obtain ⟨k, q, hk, rfl, hT⟩ := hrel
    obtain ⟨h00, h01⟩ := box2 hT.bl
    obtain ⟨c0, c1, f0, f1⟩ := hT.box.facts
    obtain ⟨AQ, cq, rfl, hAQ, -⟩ := hT.own.shape
    have T := Lib.hid hT
    have Q := Lib.hid hAQ
    have hbw : Bl w wr := (Bl.alloc_ (Bl.refl w) _).trans_ hT.bl
    have HB := Lib.hid hbw
    clear hT hAQ T0
    by_cases hlt : k < n
    · have hkl : k < L.length := by have := HN.out; omega
      obtain ⟨g1, o1, rfl, hg1, hc1⟩ := K1.out (by omega)
      obtain ⟨p1, p2, p3⟩ := hc1 k hkl
      clear hc1
      rw [← (bcell hbw).1 _ _ hg1] at p1 p2 p3
      have RK := Lib.hid (revK_succ hkl)
      have hlen := revK_len L k (by omega)
      generalize hx : L[k].1 = x at p1
      generalize hy : L[k].2.1 = y at p2
      generalize hz : L[k].2.2 = z at p3
      have HE := Lib.hid (show turnA L[k] = (y, x, z) from by unfold turnA; rw [hx, hy, hz])
      clear hx hy hz hbw
      obtain ⟨l, hl⟩ : ∃ l, l = (revK L k).length := ⟨_, rfl⟩
      rw [← hl] at hlen c1 T
      have HL := Lib.hid hl
      clear hl
      have u1 : (0 : Int) ≤ (k : Int) := by omega
      have u2 : (k : Int) < (n : Int) := by omega
      go_wp2_with fail
      have TD := Lib.hid (T.out.bl_ (show Bl wr wr.drew from (by repeat' (first | exact Bl.refl _ | with_reducible assumption | with_reducible refine Bl.drew_ ?_ | with_reducible refine Bl.drewN_ ?_ _ | with_reducible refine Bl.alloc_ ?_ _ | with_reducible refine Bl.trans_ ?_ (by assumption) | with_reducible refine Bl.trans_ ?_ (And.left (by assumption))))))
      have e0 := (TD.out.box.facts).1
      go_still_tail 21, (by kernel_rfl)
      change wpList _ _ _ _ _ wr.drew
      go_wp2_with fail
      refine (l1Put_any y x z AQ l cq (revK L k) HL.out _ (by omega) (Q.out.bl (by repeat' (first | exact Bl.refl _ | with_reducible assumption | with_reducible refine Bl.drew_ ?_ | with_reducible refine Bl.drewN_ ?_ _ | with_reducible refine Bl.alloc_ ?_ _ | with_reducible refine Bl.trans_ ?_ (by assumption) | with_reducible refine Bl.trans_ ?_ (And.left (by assumption)))))).mono ?_
      rintro e w9 ⟨v4, rfl, ho, hb⟩
      obtain ⟨AB, cb, rfl, -, -⟩ := ho.shape
      have hlen2 := putL_len (y, x, z) (revK L k)
      have U4 := Lib.hid (TD.out.bl_ hb)
      have O4 := Lib.hid (U4.out.put (q2 := _) (L2 := putL (y, x, z) (revK L k)) (ho.low (World.rowIs.lt TD.out.box)))
      obtain ⟨d0, d1, k0, k1⟩ := U4.out.box.facts
      clear ho c0 c1 f0 f1 e0
      go_wp2
      go_roundw
      case rel => exact ⟨k + 1, _, by omega, by go_num, by rw [RK.out, HE.out]; exact O4.out⟩
      case measure => simp [intOf]; omega
    · obtain rfl : k = n := by omega
      have RA := Lib.hid (show revK L k = revL L from by rw [HN.out]; exact revK_all L)
      obtain ⟨r0, r1, fr0, fr1⟩ := T.out.res.facts
      go_wp2
      refine bodyPost_ret (v := .agg #[.int .i64 N, .slice AQ (revK L k).length cq]) (by simp [results, Try.results89, go_sem, r0, r1, fr0, fr1]) rfl ?_
      have := T.out.fin (.int .i64 N) (.slice AQ (revK L k).length cq)
      rw [RA.out] at this ⊢
      exact ⟨_, rfl, this.1, this.2⟩

set_option maxRecDepth 100000 in
set_option maxHeartbeats 1000000 in
theorem specReversed_any (N : Int) (A : Option Addr) (n c : Nat) (L : List Arc3) (hn : n = L.length) (w : World) (hm : n ≤ 1048576) (H1 : ArcsAt w w.heap.size A L) :
    Calls Try.prog 51 #[.agg #[.int .i64 N, .slice A n c]] w (GraphMade1 (revN N L) (revG N L) w) := by
  have K1 := Lib.hid H1
  have HN := Lib.hid hn
  clear H1 hn
  cases ho : okB N L with
  | false =>
    have HO := Lib.hid ho
    clear ho
    go_enter Try.func51, Try.ntmps51
    go_wp2_with fail
    refine (specOk_any N A n c L HN.out _ (by omega) (K1.out.bl (by repeat' (first | exact Bl.refl _ | with_reducible assumption | with_reducible refine Bl.drew_ ?_ | with_reducible refine Bl.drewN_ ?_ _ | with_reducible refine Bl.alloc_ ?_ _ | with_reducible refine Bl.trans_ ?_ (by assumption) | with_reducible refine Bl.trans_ ?_ (And.left (by assumption)))))).mono ?_
    rintro e w1 ⟨rfl, hb1⟩
    rw [HO.out]
    obtain ⟨h00, h01, h10, h11, f10, f11, hsz⟩ := box22 hb1
    go_wp2
    refine bodyPost_ret (v := .agg #[.int .i64 0, .slice none 0 0]) (by simp [results, Try.results51, go_sem, h10, h11, f10, f11]) rfl ?_
    refine ⟨.slice none 0 0, by unfold revN; rw [HO.out]; rfl, by unfold revG; rw [HO.out, if_neg (by simp)]; exact OwnA.nil_ _ _, ?_⟩
    exact Bl.set_ (Bl.set_ ((Bl.alloc_ (Bl.alloc_ (Bl.refl w) _) _).trans_ hb1) (Nat.le_succ _) _) (Nat.le_succ _) _
  | true =>
    have HO := Lib.hid ho
    clear ho
    go_enter Try.func51, Try.ntmps51
    go_wp2_with fail
    refine (specOk_any N A n c L HN.out _ (by omega) (K1.out.bl (by repeat' (first | exact Bl.refl _ | with_reducible assumption | with_reducible refine Bl.drew_ ?_ | with_reducible refine Bl.drewN_ ?_ _ | with_reducible refine Bl.alloc_ ?_ _ | with_reducible refine Bl.trans_ ?_ (by assumption) | with_reducible refine Bl.trans_ ?_ (And.left (by assumption)))))).mono ?_
    rintro e w1 ⟨rfl, hb1⟩
    rw [HO.out]
    obtain ⟨h00, h01, h10, h11, f10, f11, hsz⟩ := box22 hb1
    go_wp2_with fail
    refine (l1Reverse_any N A n c L HN.out _ hm (K1.out.bl (by repeat' (first | exact Bl.refl _ | with_reducible assumption | with_reducible refine Bl.drew_ ?_ | with_reducible refine Bl.drewN_ ?_ _ | with_reducible refine Bl.alloc_ ?_ _ | with_reducible refine Bl.trans_ ?_ (by assumption) | with_reducible refine Bl.trans_ ?_ (And.left (by assumption)))))).mono ?_
    rintro e w2 ⟨v, rfl, hv, hb2⟩
    have HV := Lib.hid hv
    have hb2 := hb1.trans_ hb2
    obtain ⟨A2, c2, rfl, -, -⟩ := hv.shape
    clear hv h00 h01 h10 h11 f10 f11
    obtain ⟨h00, h01, h10, h11, f10, f11, hsz2⟩ := box22 hb2
    go_wp2
    refine bodyPost_ret (v := .agg #[.int .i64 N, .slice A2 (revL L).length c2]) (by simp [results, Try.results51, go_sem, h10, h11, f10, f11]) rfl ?_
    refine ⟨_, by unfold revN; rw [HO.out]; rfl, ?_, Bl.set_ (Bl.set_ ((Bl.alloc_ (Bl.alloc_ (Bl.refl w) _) _).trans_ hb2) (Nat.le_succ _) _) (Nat.le_succ _) _⟩
    unfold revG
    rw [HO.out, if_pos rfl]
    exact ((HV.out.set_ (by show w.heap.size + 1 < _; omega) _).set_ (by show w.heap.size + 1 < _; omega) _).low (by omega)

end Go.Proofs.Ytmdmbobjdhjadaa

set_option linter.unusedSimpArgs false
set_option linter.unusedVariables false
namespace Go.Proofs.Ytmdmbobjdhjadaa
open Go.RowKit

def leftB (D E V : List Int) (v : Int) : Bool := decide (0 ≤ dAt D v ∧ 0 ≤ dAt E v ∧ min (dAt D v) (dAt E v) ≤ V.getD v.toNat 0)
/-- The nodes below k that reaches leave. -/
def leftK (D E V : List Int) (k : Nat) : List Int := ((List.range k).map Int.ofNat).filter (leftB D E V)
theorem leftK_zero (D E V : List Int) : leftK D E V 0 = [] := rfl
theorem leftK_yes {D E V : List Int} {k : Nat} (h : leftB D E V (k : Int) = true) : leftK D E V (k + 1) = leftK D E V k ++ [(k : Int)] := by
  unfold leftK
  rw [List.range_succ, List.map_append, List.filter_append]
  simp [h]
theorem leftK_no {D E V : List Int} {k : Nat} (h : leftB D E V (k : Int) = false) : leftK D E V (k + 1) = leftK D E V k := by
  unfold leftK
  rw [List.range_succ, List.map_append, List.filter_append]
  simp [h]
theorem leftK_len (D E V : List Int) (k : Nat) : (leftK D E V k).length ≤ k := by
  unfold leftK
  have := List.length_filter_le (leftB D E V) ((List.range k).map Int.ofNat)
  simp at this
  exact this
theorem leftB_at {D E V : List Int} {k : Nat} (h : k < D.length) (h' : k < E.length) (h2 : k < V.length) : leftB D E V (k : Int) = decide (0 ≤ D[k] ∧ 0 ≤ E[k] ∧ min D[k] E[k] ≤ V[k]) := by
  unfold leftB
  rw [dAt_at h, dAt_at h']
  simp [h2]
theorem leftK_same {D E D' E' V : List Int} {k : Nat} (hD : ∀ v : Int, 0 ≤ v → v < k → dAt D v = dAt D' v) (hE : ∀ v : Int, 0 ≤ v → v < k → dAt E v = dAt E' v) : leftK D E V k = leftK D' E' V k := by
  unfold leftK
  refine List.filter_congr fun v hv => ?_
  obtain ⟨j, hj, rfl⟩ := List.mem_map.1 hv
  rw [List.mem_range] at hj
  have h0 : (0 : Int) ≤ Int.ofNat j := Int.natCast_nonneg j
  have h1 : Int.ofNat j < (k : Int) := by show (j : Int) < (k : Int); omega
  unfold leftB
  rw [hD _ h0 h1, hE _ h0 h1]
/-- Are reaches asked as they should be? -/
def askB (N : Int) (L : List Arc3) (V : List Int) (s t : Int) : Bool := reachB N L V && (decide (0 ≤ s ∧ s < N) && decide (0 ≤ t ∧ t < N))
theorem askB_no1 {N s t : Int} {L : List Arc3} {V : List Int} (h : reachB N L V = false) : askB N L V s t = false := by unfold askB; rw [h, Bool.false_and]
theorem askB_no2 {N s t : Int} {L : List Arc3} {V : List Int} (h : decide (0 ≤ s ∧ s < N) = false) : askB N L V s t = false := by unfold askB; rw [h, Bool.false_and, Bool.and_false]
theorem askB_no3 {N s t : Int} {L : List Arc3} {V : List Int} (h : decide (0 ≤ t ∧ t < N) = false) : askB N L V s t = false := by unfold askB; rw [h, Bool.and_false, Bool.and_false]
theorem askB_yes {N s t : Int} {L : List Arc3} {V : List Int} (h : reachB N L V = true) (hs : decide (0 ≤ s ∧ s < N) = true) (ht : decide (0 ≤ t ∧ t < N) = true) : askB N L V s t = true := by unfold askB; rw [h, hs, ht]; rfl
theorem askB_elim {N s t : Int} {L : List Arc3} {V : List Int} (h : askB N L V s t = true) : reachB N L V = true ∧ (0 ≤ s ∧ s < N) ∧ (0 ≤ t ∧ t < N) := by
  unfold askB at h
  simp only [Bool.and_eq_true, decide_eq_true_eq] at h
  exact h
def prunedL (N : Int) (L : List Arc3) (V : List Int) (s t : Int) : List Int := if askB N L V s t = true then leftK (distL N L s) (distL N (revL L) t) V N.toNat else []
theorem prunedL_no {N s t : Int} {L : List Arc3} {V : List Int} (h : askB N L V s t = false) : prunedL N L V s t = [] := if_neg (by rw [h]; simp)
theorem prunedL_len (N : Int) (L : List Arc3) (V : List Int) (s t : Int) : (prunedL N L V s t).length ≤ 1048576 := by
  unfold prunedL
  split
  · rename_i h
    have h1 := (okB_elim (reachB_ok (askB_elim h).1).1).2.1
    have h2 := leftK_len (distL N L s) (distL N (revL L) t) V N.toNat
    omega
  · simp

set_option maxRecDepth 100000 in
set_option maxHeartbeats 4000000 in
theorem specPruned_any (N s t : Int) (A : Option Addr) (n c : Nat) (L : List Arc3) (hn : n = L.length) (A2 : Option Addr) (kk c2 : Nat) (V : List Int) (hk : kk = V.length) (w : World) (hm : n ≤ 1048576) (hkm : kk ≤ 1048576) (H1 : ArcsAt w w.heap.size A L) (H2 : IntsAt w w.heap.size A2 V) :
    Calls Try.prog 40 #[.agg #[.int .i64 N, .slice A n c], .slice A2 kk c2, .int .i64 s, .int .i64 t] w (NumsMade (prunedL N L V s t) w) := by
  obtain ⟨i0, hi, hz0, hz1, hz2⟩ := info_parts infoInt
  have I0 := Lib.hid hi
  have I1 := Lib.hid hz0
  have I2 := Lib.hid hz1
  have I3 := Lib.hid hz2
  have K1 := Lib.hid H1
  have K2 := Lib.hid H2
  have HN := Lib.hid hn
  have HK := Lib.hid hk
  have O0 := Lib.hid (show ∀ wx, Bl ((w.alloc (.cells #[.int .i64 N, .slice A n c] 42)).alloc (.cells #[] 2)) wx → OwnN wx (w.heap.size + 1) (.slice (some ⟨w.heap.size + 1, 0, none⟩) 0 0) [] from fun wx hb => by
    have h := World.ownsRow_made (base := w.heap.size + 1) (e := 2) (size := 1) (w.alloc (.cells #[.int .i64 N, .slice A n c] 42)) #[] 0 (by simp) (by unfold maxLen; omega) rfl
    rw [World.size_alloc] at h
    exact OwnN.bl h hb)
  have BX := Lib.hid (show ∀ wx, Bl ((w.alloc (.cells #[.int .i64 N, .slice A n c] 42)).alloc (.cells #[] 2)) wx → wx.cell? ⟨w.heap.size, 0, none⟩ = some (.int .i64 N) ∧ wx.cell? ⟨w.heap.size, 1, none⟩ = some (.slice A n c) from fun wx hb => box2 ((Bl.alloc_ (Bl.refl (w.alloc (.cells #[.int .i64 N, .slice A n c] 42))) _).trans_ hb))
  have BW := Lib.hid (show ∀ wx, Bl ((w.alloc (.cells #[.int .i64 N, .slice A n c] 42)).alloc (.cells #[] 2)) wx → Bl w wx from fun wx hb => (Bl.alloc_ (Bl.alloc_ (Bl.refl w) _) _).trans_ hb)
  clear H1 H2 hn hk hi hz0 hz1 hz2
  cases hr : reachB N L V with
  | false =>
    have AB := Lib.hid (prunedL_no (askB_no1 (s := s) (t := t) hr))
    have RB := Lib.hid hr
    clear hr
    go_enter Try.func40, Try.ntmps40
    go_wp2_with fail
    refine (specReachOk_any N A n c L HN.out A2 kk c2 V HK.out _ hm hkm (K1.out.bl (by repeat' (first | exact Bl.refl _ | with_reducible assumption | with_reducible refine Bl.drew_ ?_ | with_reducible refine Bl.drewN_ ?_ _ | with_reducible refine Bl.alloc_ ?_ _ | with_reducible refine Bl.trans_ ?_ (by assumption) | with_reducible refine Bl.trans_ ?_ (And.left (by assumption))))) (K2.out.bl (by repeat' (first | exact Bl.refl _ | with_reducible assumption | with_reducible refine Bl.drew_ ?_ | with_reducible refine Bl.drewN_ ?_ _ | with_reducible refine Bl.alloc_ ?_ _ | with_reducible refine Bl.trans_ ?_ (by assumption) | with_reducible refine Bl.trans_ ?_ (And.left (by assumption)))))).mono ?_
    rintro e w1 ⟨rfl, hb1⟩
    rw [RB.out]
    go_wp2
    go_ret
    exact ⟨_, rfl, by rw [AB.out]; exact (O0.out _ hb1).low (by omega), BW.out _ hb1⟩
  | true =>
    have RB := Lib.hid hr
    have HO := Lib.hid (reachB_ok hr).1
    have ho := HO.out
    have HNS := Lib.hid (nodeB_ok (v := s) ho)
    have HNT := Lib.hid (nodeB_ok (v := t) ho)
    clear hr
    by_cases hs : 0 ≤ s ∧ s < N
    · have hsd : decide (0 ≤ s ∧ s < N) = true := by simpa using hs
      have HS := Lib.hid hsd
      by_cases ht : 0 ≤ t ∧ t < N
      · have htd : decide (0 ≤ t ∧ t < N) = true := by simpa using ht
        have HT := Lib.hid htd
        have AB := Lib.hid (askB_yes RB.out hsd htd)
        clear hsd htd
        go_enter Try.func40, Try.ntmps40
        go_wp2_with fail
        refine (specReachOk_any N A n c L HN.out A2 kk c2 V HK.out _ hm hkm (K1.out.bl (by repeat' (first | exact Bl.refl _ | with_reducible assumption | with_reducible refine Bl.drew_ ?_ | with_reducible refine Bl.drewN_ ?_ _ | with_reducible refine Bl.alloc_ ?_ _ | with_reducible refine Bl.trans_ ?_ (by assumption) | with_reducible refine Bl.trans_ ?_ (And.left (by assumption))))) (K2.out.bl (by repeat' (first | exact Bl.refl _ | with_reducible assumption | with_reducible refine Bl.drew_ ?_ | with_reducible refine Bl.drewN_ ?_ _ | with_reducible refine Bl.alloc_ ?_ _ | with_reducible refine Bl.trans_ ?_ (by assumption) | with_reducible refine Bl.trans_ ?_ (And.left (by assumption)))))).mono ?_
        rintro e w1 ⟨rfl, hb1⟩
        rw [RB.out]
        obtain ⟨q0, q1⟩ := BX.out _ hb1
        go_wp2_with fail
        refine (l1Node_any N s _ _).mono ?_
        rintro e w2 ⟨rfl, hb2⟩
        rw [HNS.out, HS.out]
        have hb2 := hb1.trans_ hb2
        obtain ⟨q0, q1⟩ := BX.out _ hb2
        go_wp2_with fail
        refine (l1Node_any N t _ _).mono ?_
        rintro e w3 ⟨rfl, hb3⟩
        rw [HNT.out, HT.out]
        have hb3 := hb2.trans_ hb3
        obtain ⟨q0, q1⟩ := BX.out _ hb3
        have hN24 := (okB_elim ho).2.1
        have hL150 := (okB_elim ho).2.2.1
        have HRO := Lib.hid (revL_ok ho)
        have HRL := Lib.hid (revL_len (okB_elim ho).2.2.2.2)
        have HD := Lib.hid (distL_is (s := s) (arcsIn_of_ok ho) hN24 hs.1 hs.2)
        have HE := Lib.hid (distL_is (s := t) (arcsIn_of_ok (revL_ok ho)) hN24 ht.1 ht.2)
        have HDT := Lib.hid (fun v => distL_top (s := s) ho hs.1 hs.2 v)
        have HET := Lib.hid (fun v => distL_top (s := t) (revL_ok ho) ht.1 ht.2 v)
        have HDl := Lib.hid (show (distL N L s).length = N.toNat from distL_len ho hs.1 hs.2)
        have HEl := Lib.hid (show (distL N (revL L) t).length = N.toNat from distL_len (revL_ok ho) ht.1 ht.2)
        have HV := Lib.hid (show prunedL N L V s t = leftK (distL N L s) (distL N (revL L) t) V N.toNat from by
          unfold prunedL
          rw [if_pos AB.out])
        have hVl := (reachB_ok RB.out).2
        go_wp2_with fail
        refine (l3Dist_any N s A n c L HN.out HO.out hs.1 hs.2 _ hm (K1.out.bl (BW.out _ hb3))).mono ?_
        rintro e w4 ⟨v4, rfl, hv4, hb4⟩
        obtain ⟨A4, c4, rfl, -, hi4, -, lo4⟩ := OwnN.shape hv4
        have LO4 := Lib.hid (show ∀ g, blockOf A4 = some g → w.heap.size + 1 < g from fun g hg => by have := lo4 g hg; have := hb3.size; simp at this; omega)
        have J4 := Lib.hid hi4
        have hb4 := hb3.trans_ hb4
        obtain ⟨q0, q1⟩ := BX.out _ hb4
        clear hv4 hi4
        go_wp2_with fail
        refine (l1Reverse_any N A n c L HN.out _ hm (K1.out.bl (BW.out _ hb4))).mono ?_
        rintro e w5 ⟨v5, rfl, hv5, hb5⟩
        obtain ⟨A5, c5, rfl, ha5, -⟩ := hv5.shape
        have J5 := Lib.hid ha5
        have JJ5 := Lib.hid (J4.out.bl hb5)
        have hb5 := hb4.trans_ hb5
        clear hv5 ha5
        go_wp2_with fail
        refine (l3Dist_any N t A5 (revL L).length c5 (revL L) rfl HRO.out ht.1 ht.2 _ (by rw [HRL.out]; omega) J5.out).mono ?_
        rintro e w6 ⟨v6, rfl, hv6, hb6⟩
        obtain ⟨A6, c6, rfl, -, hi6, -, lo6⟩ := OwnN.shape hv6
        have LO6 := Lib.hid (show ∀ g, blockOf A6 = some g → w.heap.size + 1 < g from fun g hg => by have := lo6 g hg; have := hb5.size; simp at this; omega)
        have J6 := Lib.hid hi6
        have JJ6 := Lib.hid (JJ5.out.bl hb6)
        have hb6 := hb5.trans_ hb6
        have O6 := Lib.hid (O0.out _ hb6)
        have P6 := Lib.hid hb6
        clear hv6 hi6 q0 q1 hb1 hb2 hb3 hb4 hb5 hb6 ho
        obtain ⟨k, rfl⟩ : ∃ k : Nat, N = k := ⟨N.toNat, by omega⟩
        have hDl := HDl.out
        have hEl := HEl.out
        rw [Int.toNat_natCast] at hDl hEl
        obtain ⟨q, rfl⟩ : ∃ q : Nat, t = q := ⟨t.toNat, by omega⟩
        have hqk : q < k := by omega
        rw [hDl, hEl]
        generalize distL k L s = D at *
        generalize distL k (revL L) q = E at *
        go_wp2_with fail
        go_loopw [9, 12] (fun vv i wr => ∃ (j : Nat) (v : Value), j ≤ k ∧ v = vv ∧ i = .int .i64 j ∧ OwnN wr (w.heap.size + 1) v (leftK D E V j) ∧ Turn (fun i => i = w.heap.size + 1) w6 wr ∧ ∀ g, v.ownBlock = some g → g = w.heap.size + 1 ∨ w6.heap.size ≤ g) (fun _ i _ => k - (intOf i).toNat)
        case atStart => exact ⟨0, _, by omega, rfl, rfl, by rw [leftK_zero]; exact O6.out, Turn.refl _ _, fun g hg => by simp [Value.ownBlock] at hg; omega⟩
        case round =>
          obtain ⟨j, v, hj, rfl, rfl, hO, hT, hVO⟩ := hrel
          have O := Lib.hid hO
          have hG : Bl (w.alloc (.cells #[.int .i64 (k : Int), .slice A n c] 42)) wr := Turn.to_bl ((Bl.alloc_ (Bl.refl _) _).trans_ P6.out) hT (fun i e => by simp; omega)
          obtain ⟨q0, q1⟩ := box2 hG
          have T := Lib.hid hT
          have VO := Lib.hid hVO
          have hsz := hG.size
          simp only [World.size_alloc] at hsz
          have hszT := hT.size
          have hs6 := P6.out.size
          simp only [World.size_alloc] at hs6
          have hwl := leftK_len D E V j
          clear hO
          by_cases hlt : j < k
          · have i1 : (j : Int) < (k : Int) := by omega
            have hjD : j < D.length := by omega
            have hjE : j < E.length := by omega
            have hjV : j < V.length := by omega
            obtain ⟨g1, o1, rfl, hg1, hc1⟩ := (show IntsAt wr w6.heap.size A4 D from CellsAt.turn JJ6.out (Nat.le_refl _) hT (fun g hg _ e => by have := LO4.out g hg; omega)).cell (by omega)
            obtain ⟨g2, o2, rfl, hg2, hc2⟩ := (show IntsAt wr w6.heap.size A6 E from CellsAt.turn J6.out (Nat.le_refl _) hT (fun g hg _ e => by have := LO6.out g hg; omega)).cell (by omega)
            have p1 := hc1 j hjD
            have p2 := hc2 j hjE
            obtain ⟨g3, o3, rfl, hg3, hc3⟩ := K2.out.cell (by omega)
            have p3 := ((bcell ((Bl.alloc_ (Bl.refl w) _).trans_ hG)).1 _ _ hg3).trans (hc3 j hjV)
            clear hc1 hc2 hc3
            have BY := Lib.hid (leftB_at (V := V) hjD hjE hjV)
            have YES := Lib.hid (fun h => leftK_yes (D := D) (E := E) (V := V) (k := j) h)
            have NO := Lib.hid (fun h => leftK_no (D := D) (E := E) (V := V) (k := j) h)
            have hd0 := HDT.out j
            have he0 := HET.out j
            rw [dAt_at hjD] at hd0
            rw [dAt_at hjE] at he0
            generalize D[j] = d at *
            generalize E[j] = e at *
            generalize V[j] = r at *
            have j0 : (0 : Int) ≤ (j : Int) := by omega
            have ik : (j : Int) < (kk : Int) := by have := HK.out; omega
            have sz0 : w.heap.size ≤ wr.heap.size := by omega
            have HSH := Lib.hid (show ∀ wx, Bl wr wx → Bl wr wx ∧ wx.cell? ⟨g1, o1 + j, none⟩ = some (.int .i64 d) ∧ wx.cell? ⟨g2, o2 + j, none⟩ = some (.int .i64 e) ∧ wx.cell? ⟨g3, o3 + j, none⟩ = some (.int .i64 r) from fun wx hb =>
              ⟨hb, ((bcell hb).1 _ _ (by omega)).trans p1, ((bcell hb).1 _ _ (by omega)).trans p2, ((bcell hb).1 _ _ (by omega)).trans p3⟩)
            clear p1 p2 p3
            clear hd0 he0
            by_cases h1 : 0 ≤ d
            · have b1 : decide (0 ≤ d) = true := by simpa using h1
              by_cases h2 : 0 ≤ e
              · have b2 : decide (0 ≤ e) = true := by simpa using h2
                by_cases h3 : min d e ≤ r
                · have b3 : decide (min d e ≤ r) = true := by simpa using h3
                  have HY := Lib.hid (YES.out (by rw [BY.out, decide_eq_true_eq]; exact ⟨h1, h2, h3⟩))
                  clear YES NO BY
                  go_wp2_with fail
                  refine wp_region_held_drew (S := fun wx => Bl wr wx ∧ wx.cell? ⟨g1, o1 + j, none⟩ = some (.int .i64 d) ∧ wx.cell? ⟨g2, o2 + j, none⟩ = some (.int .i64 e) ∧ wx.cell? ⟨g3, o3 + j, none⟩ = some (.int .i64 r)) (by kernel_rfl) ?_ (fun hHeld => ?_)
                  · (exact HSH.out _ (by repeat' (first | exact Bl.refl _ | with_reducible assumption | with_reducible refine Bl.drew_ ?_ | with_reducible refine Bl.drewN_ ?_ _ | with_reducible refine Bl.alloc_ ?_ _ | with_reducible refine Bl.trans_ ?_ (by assumption) | with_reducible refine Bl.trans_ ?_ (And.left (by assumption)))))
                  refine wpAnyH_take (i := 0) (v := ?_) rfl (by kernel_rfl) (by kernel_rfl) (by kernel_rfl) (fun _ _ _ h => h) (Or.inl ⟨by kernel_rfl, ?_⟩) (by assumption) ?_
                  rotate_left
                  · (intro wx hSw; (try dsimp only at hSw); go_simp; try (with_reducible rfl))
                  try simp only [Act.put, List.getElem_toArray, List.getElem_cons_succ, List.getElem_cons_zero, List.setIfInBounds_toArray, List.set_cons_zero, List.set_cons_succ]
                  refine wpAnyH_take (i := 1) (v := ?_) rfl (by kernel_rfl) (by kernel_rfl) (by kernel_rfl) (fun _ _ _ h => h) (Or.inl ⟨by kernel_rfl, ?_⟩) (by assumption) ?_
                  rotate_left
                  · (intro wx hSw; (try dsimp only at hSw); go_simp; try (with_reducible rfl))
                  try simp only [Act.put, List.getElem_toArray, List.getElem_cons_succ, List.getElem_cons_zero, List.setIfInBounds_toArray, List.set_cons_zero, List.set_cons_succ]
                  refine wpAnyH_take (i := 2) (v := ?_) rfl (by kernel_rfl) (by kernel_rfl) (by kernel_rfl) (fun _ _ _ h => h) (Or.inl ⟨by kernel_rfl, ?_⟩) (by assumption) ?_
                  rotate_left
                  · (intro wx hSw; (try dsimp only at hSw); go_simp; try (with_reducible rfl))
                  try simp only [Act.put, List.getElem_toArray, List.getElem_cons_succ, List.getElem_cons_zero, List.setIfInBounds_toArray, List.set_cons_zero, List.set_cons_succ]
                  refine wpAnyH_take (i := 3) (v := ?_) rfl (by kernel_rfl) (by kernel_rfl) (by kernel_rfl) (fun _ _ _ h => h) (Or.inl ⟨by kernel_rfl, ?_⟩) (by assumption) ?_
                  rotate_left
                  · (intro wx hSw; (try dsimp only at hSw); go_simp; try (with_reducible rfl))
                  try simp only [Act.put, List.getElem_toArray, List.getElem_cons_succ, List.getElem_cons_zero, List.setIfInBounds_toArray, List.set_cons_zero, List.set_cons_succ]
                  refine wpAnyH_take (i := 4) (v := ?_) rfl (by kernel_rfl) (by kernel_rfl) (by kernel_rfl) (fun _ _ _ h => h) (Or.inl ⟨by kernel_rfl, ?_⟩) (by assumption) ?_
                  rotate_left
                  · (intro wx hSw; (try dsimp only at hSw); go_simp; try (with_reducible rfl))
                  try simp only [Act.put, List.getElem_toArray, List.getElem_cons_succ, List.getElem_cons_zero, List.setIfInBounds_toArray, List.set_cons_zero, List.set_cons_succ]
                  refine wpAnyH_take (i := 5) (v := ?_) rfl (by kernel_rfl) (by kernel_rfl) (by kernel_rfl) (fun _ _ _ h => h) (Or.inl ⟨by kernel_rfl, ?_⟩) (by assumption) ?_
                  rotate_left
                  · (intro wx hSw; (try dsimp only at hSw); go_simp; try (with_reducible rfl))
                  try simp only [Act.put, List.getElem_toArray, List.getElem_cons_succ, List.getElem_cons_zero, List.setIfInBounds_toArray, List.set_cons_zero, List.set_cons_succ]
                  refine wpAnyH_take (i := 6) (v := ?_) rfl (by kernel_rfl) (by kernel_rfl) (by kernel_rfl) (fun _ _ _ h => h) (Or.inl ⟨by kernel_rfl, ?_⟩) (by assumption) ?_
                  rotate_left
                  · (intro wx hSw; (try dsimp only at hSw); go_simp; try (with_reducible rfl))
                  try simp only [Act.put, List.getElem_toArray, List.getElem_cons_succ, List.getElem_cons_zero, List.setIfInBounds_toArray, List.set_cons_zero, List.set_cons_succ]
                  refine wpAnyH_take (i := 7) (v := ?_) rfl (by kernel_rfl) (by kernel_rfl) (by kernel_rfl) (fun _ _ _ h => h) (Or.inl ⟨by kernel_rfl, ?_⟩) (by assumption) ?_
                  rotate_left
                  · (intro wx hSw; (try dsimp only at hSw); go_simp; try (with_reducible rfl))
                  try simp only [Act.put, List.getElem_toArray, List.getElem_cons_succ, List.getElem_cons_zero, List.setIfInBounds_toArray, List.set_cons_zero, List.set_cons_succ]
                  refine wpAnyH_take (i := 8) (v := ?_) rfl (by kernel_rfl) (by kernel_rfl) (by kernel_rfl) (fun _ _ _ h => h) (Or.inl ⟨by kernel_rfl, ?_⟩) (by assumption) ?_
                  rotate_left
                  · (intro wx hSw; (try dsimp only at hSw); go_simp; try (with_reducible rfl))
                  try simp only [Act.put, List.getElem_toArray, List.getElem_cons_succ, List.getElem_cons_zero, List.setIfInBounds_toArray, List.set_cons_zero, List.set_cons_succ]
                  refine wpAnyH_take (i := 9) (v := ?_) rfl (by kernel_rfl) (by kernel_rfl) (by kernel_rfl) (fun _ _ _ h => h) (Or.inl ⟨by kernel_rfl, ?_⟩) (by assumption) ?_
                  rotate_left
                  · (intro wx hSw; (try dsimp only at hSw); go_simp; try (with_reducible rfl))
                  try simp only [Act.put, List.getElem_toArray, List.getElem_cons_succ, List.getElem_cons_zero, List.setIfInBounds_toArray, List.set_cons_zero, List.set_cons_succ]
                  refine wpAnyH_take (i := 10) (v := ?_) rfl (by kernel_rfl) (by kernel_rfl) (by kernel_rfl) (fun _ _ _ h => h) (Or.inl ⟨by kernel_rfl, ?_⟩) (by assumption) ?_
                  rotate_left
                  · (intro wx hSw; (try dsimp only at hSw); go_simp; try (with_reducible rfl))
                  try simp only [Act.put, List.getElem_toArray, List.getElem_cons_succ, List.getElem_cons_zero, List.setIfInBounds_toArray, List.set_cons_zero, List.set_cons_succ]
                  refine wpAnyH_take (i := 11) (v := ?_) rfl (by kernel_rfl) (by kernel_rfl) (by kernel_rfl) (fun _ _ _ h => h) (Or.inl ⟨by kernel_rfl, ?_⟩) (by assumption) ?_
                  rotate_left
                  · (intro wx hSw; (try dsimp only at hSw); go_simp; try (with_reducible rfl))
                  try simp only [Act.put, List.getElem_toArray, List.getElem_cons_succ, List.getElem_cons_zero, List.setIfInBounds_toArray, List.set_cons_zero, List.set_cons_succ]
                  refine wpAnyH_take (i := 12) (v := ?_) rfl (by kernel_rfl) (by kernel_rfl) (by kernel_rfl) (fun _ _ _ h => h) (Or.inl ⟨by kernel_rfl, ?_⟩) (by assumption) ?_
                  rotate_left
                  · (intro wx hSw; (try dsimp only at hSw); go_simp; try (with_reducible rfl))
                  try simp only [Act.put, List.getElem_toArray, List.getElem_cons_succ, List.getElem_cons_zero, List.setIfInBounds_toArray, List.set_cons_zero, List.set_cons_succ]
                  refine wpAnyH_take (i := 13) (v := ?_) rfl (by kernel_rfl) (by kernel_rfl) (by kernel_rfl) (fun _ _ _ h => h) (Or.inl ⟨by kernel_rfl, ?_⟩) (by assumption) ?_
                  rotate_left
                  · (intro wx hSw; (try dsimp only at hSw); go_simp; try (with_reducible rfl))
                  try simp only [Act.put, List.getElem_toArray, List.getElem_cons_succ, List.getElem_cons_zero, List.setIfInBounds_toArray, List.set_cons_zero, List.set_cons_succ]
                  refine wpAnyH_take (i := 14) (v := ?_) rfl (by kernel_rfl) (by kernel_rfl) (by kernel_rfl) (fun _ _ _ h => h) (Or.inl ⟨by kernel_rfl, ?_⟩) (by assumption) ?_
                  rotate_left
                  · (intro wx hSw; (try dsimp only at hSw); go_simp; try (with_reducible rfl))
                  try simp only [Act.put, List.getElem_toArray, List.getElem_cons_succ, List.getElem_cons_zero, List.setIfInBounds_toArray, List.set_cons_zero, List.set_cons_succ]
                  refine wpAnyH_take (i := 15) (v := ?_) rfl (by kernel_rfl) (by kernel_rfl) (by kernel_rfl) (fun _ _ _ h => h) (Or.inl ⟨by kernel_rfl, ?_⟩) (by assumption) ?_
                  rotate_left
                  · (intro wx hSw; (try dsimp only at hSw); go_simp; try (with_reducible rfl))
                  try simp only [Act.put, List.getElem_toArray, List.getElem_cons_succ, List.getElem_cons_zero, List.setIfInBounds_toArray, List.set_cons_zero, List.set_cons_succ]
                  refine wpAnyH_take (i := 16) (v := ?_) rfl (by kernel_rfl) (by kernel_rfl) (by kernel_rfl) (fun _ _ _ h => h) (Or.inl ⟨by kernel_rfl, ?_⟩) (by assumption) ?_
                  rotate_left
                  · (intro wx hSw; (try dsimp only at hSw); go_simp; try (with_reducible rfl))
                  try simp only [Act.put, List.getElem_toArray, List.getElem_cons_succ, List.getElem_cons_zero, List.setIfInBounds_toArray, List.set_cons_zero, List.set_cons_succ]
                  refine wpAnyH_take (i := 17) (v := ?_) rfl (by kernel_rfl) (by kernel_rfl) (by kernel_rfl) (fun _ _ _ h => h) (Or.inl ⟨by kernel_rfl, ?_⟩) (by assumption) ?_
                  rotate_left
                  · (intro wx hSw; (try dsimp only at hSw); go_simp; try (with_reducible rfl))
                  try simp only [Act.put, List.getElem_toArray, List.getElem_cons_succ, List.getElem_cons_zero, List.setIfInBounds_toArray, List.set_cons_zero, List.set_cons_succ]
                  refine wpAnyH_take (i := 18) (v := ?_) rfl (by kernel_rfl) (by kernel_rfl) (by kernel_rfl) (fun _ _ _ h => h) (Or.inl ⟨by kernel_rfl, ?_⟩) (by assumption) ?_
                  rotate_left
                  · (intro wx hSw; (try dsimp only at hSw); go_simp; try (with_reducible rfl))
                  try simp only [Act.put, List.getElem_toArray, List.getElem_cons_succ, List.getElem_cons_zero, List.setIfInBounds_toArray, List.set_cons_zero, List.set_cons_succ]
                  refine wpAnyH_take (i := 19) (v := ?_) rfl (by kernel_rfl) (by kernel_rfl) (by kernel_rfl) (fun _ _ _ h => h) (Or.inl ⟨by kernel_rfl, ?_⟩) (by assumption) ?_
                  rotate_left
                  · (intro wx hSw; (try dsimp only at hSw); go_simp; try (with_reducible rfl))
                  try simp only [Act.put, List.getElem_toArray, List.getElem_cons_succ, List.getElem_cons_zero, List.setIfInBounds_toArray, List.set_cons_zero, List.set_cons_succ]
                  refine wpAnyH_take (i := 20) (v := ?_) rfl (by kernel_rfl) (by kernel_rfl) (by kernel_rfl) (fun _ _ _ h => h) (Or.inl ⟨by kernel_rfl, ?_⟩) (by assumption) ?_
                  rotate_left
                  · (intro wx hSw; (try dsimp only at hSw); go_simp; try (with_reducible rfl))
                  try simp only [Act.put, List.getElem_toArray, List.getElem_cons_succ, List.getElem_cons_zero, List.setIfInBounds_toArray, List.set_cons_zero, List.set_cons_succ]
                  refine wpAnyH_take (i := 21) (v := ?_) rfl (by kernel_rfl) (by kernel_rfl) (by kernel_rfl) (fun _ _ _ h => h) (Or.inl ⟨by kernel_rfl, ?_⟩) (by assumption) ?_
                  rotate_left
                  · (intro wx hSw; (try dsimp only at hSw); go_simp; try (with_reducible rfl))
                  try simp only [Act.put, List.getElem_toArray, List.getElem_cons_succ, List.getElem_cons_zero, List.setIfInBounds_toArray, List.set_cons_zero, List.set_cons_succ]
                  refine wpAnyH_take (i := 22) (v := ?_) rfl (by kernel_rfl) (by kernel_rfl) (by kernel_rfl) (fun _ _ _ h => h) (Or.inl ⟨by kernel_rfl, ?_⟩) (by assumption) ?_
                  rotate_left
                  · (intro wx hSw; (try dsimp only at hSw); go_simp; try (with_reducible rfl))
                  try simp only [Act.put, List.getElem_toArray, List.getElem_cons_succ, List.getElem_cons_zero, List.setIfInBounds_toArray, List.set_cons_zero, List.set_cons_succ]
                  refine wpAnyH_take (i := 23) (v := ?_) rfl (by kernel_rfl) (by kernel_rfl) (by kernel_rfl) (fun _ _ _ h => h) (Or.inl ⟨by kernel_rfl, ?_⟩) (by assumption) ?_
                  rotate_left
                  · (intro wx hSw; (try dsimp only at hSw); go_simp; try (with_reducible rfl))
                  try simp only [Act.put, List.getElem_toArray, List.getElem_cons_succ, List.getElem_cons_zero, List.setIfInBounds_toArray, List.set_cons_zero, List.set_cons_succ]
                  refine wpAnyH_take (i := 24) (v := ?_) rfl (by kernel_rfl) (by kernel_rfl) (by kernel_rfl) (fun _ _ _ h => h) (Or.inl ⟨by kernel_rfl, ?_⟩) (by assumption) ?_
                  rotate_left
                  · (intro wx hSw; (try dsimp only at hSw); go_simp; try (with_reducible rfl))
                  try simp only [Act.put, List.getElem_toArray, List.getElem_cons_succ, List.getElem_cons_zero, List.setIfInBounds_toArray, List.set_cons_zero, List.set_cons_succ]
                  refine wpAnyH_ready (rs := [25]) (by kernel_rfl) (by simp) ?_
                  refine AllReadyH.cons rfl (fun K hK => ?_) AllReadyH.nil
                  go_simp
                  refine hK.out _ _ ?_ (fun hHeld => ?_)
                  · (exact HSH.out _ (by repeat' (first | exact Bl.refl _ | with_reducible assumption | with_reducible refine Bl.drew_ ?_ | with_reducible refine Bl.drewN_ ?_ _ | with_reducible refine Bl.alloc_ ?_ _ | with_reducible refine Bl.trans_ ?_ (by assumption) | with_reducible refine Bl.trans_ ?_ (And.left (by assumption)))))
                  clear hK K
                  try simp only [Act.put, List.getElem_toArray, List.getElem_cons_succ, List.getElem_cons_zero, List.setIfInBounds_toArray, List.set_cons_zero, List.set_cons_succ]
                  refine wpAnyH_take (i := 26) (v := ?_) rfl (by kernel_rfl) (by kernel_rfl) (by kernel_rfl) (fun _ _ _ h => h) (Or.inl ⟨by kernel_rfl, ?_⟩) (by assumption) ?_
                  rotate_left
                  · (intro wx hSw; (try dsimp only at hSw); go_simp; try (with_reducible rfl))
                  try simp only [Act.put, List.getElem_toArray, List.getElem_cons_succ, List.getElem_cons_zero, List.setIfInBounds_toArray, List.set_cons_zero, List.set_cons_succ]
                  refine wpAnyH_take (i := 27) (v := ?_) rfl (by kernel_rfl) (by kernel_rfl) (by kernel_rfl) (fun _ _ _ h => h) (Or.inl ⟨by kernel_rfl, ?_⟩) (by assumption) ?_
                  rotate_left
                  · (intro wx hSw; (try dsimp only at hSw); go_simp; try (with_reducible rfl))
                  try simp only [Act.put, List.getElem_toArray, List.getElem_cons_succ, List.getElem_cons_zero, List.setIfInBounds_toArray, List.set_cons_zero, List.set_cons_succ]
                  refine wpAnyH_done (by kernel_rfl) ?_ _
                  go_wp2_with (at_builtin; refine wpList_append_any _ rfl (.tmp 72) (.tmp 74) _ rfl (w.heap.size + 1) 2 i0 _ 1 8 Try.underlying22 I0.out I1.out I2.out I3.out rfl (by decide) _ (leftK D E V j).length (csI (leftK D E V j)) rfl (World.ownsRow.alloc (OwnN.bl O.out (by repeat' (first | exact Bl.refl _ | with_reducible assumption | with_reducible refine Bl.drew_ ?_ | with_reducible refine Bl.drewN_ ?_ _ | with_reducible refine Bl.alloc_ ?_ _ | with_reducible refine Bl.trans_ ?_ (by assumption) | with_reducible refine Bl.trans_ ?_ (And.left (by assumption))))) _) (wr.heap.size + 1) (some ⟨wr.heap.size, 0, none⟩) 1 1 [.int .i64 (j : Int)] rfl ?c0 (by simp [Value.oneCell']) ?c3 ?c4 ?c5 ?_)
                  case c0 =>
                    refine ⟨rfl, fun _ => ⟨_, rfl, by show wr.heap.size < wr.heap.size + 1; omega, fun x u hj => ?_⟩⟩
                    match x, hj with
                    | 0, hj => simp at hj; subst hj; (try simp [Addr.add, go_sem]); (try exact cell_new_drewN _ _ _ _)
                    | (x + 1), hj => simp at hj
                  case c3 => unfold maxLen; omega
                  case c4 => omega
                  case c5 => simp; omega
                  intro v' w7 hown' hgrow hwh
                  have O7 := Lib.hid (OwnN.snoc (V := leftK D E V j) (x := (j : Int)) (n := (leftK D E V j).length) rfl (by simpa using hown'))
                  rw [← HY.out] at O7
                  have T7 : Hid (Turn (fun i => i = w.heap.size + 1) w6 w7) := by
                    refine Lib.hid (Turn.trans (T.out.bl ?_) (Turn.of_grown (S := fun i => v.ownBlock = some i) hgrow (fun i e => e)) (fun i hi e => by rcases VO.out i e with h | h; exact h; omega))
                    first | exact (Bl.refl wr).alloc_ _ | exact ((Bl.refl wr).alloc_ _).drew_ | exact ((Bl.refl wr).alloc_ _).drewN_ _
                  have VO7 := Lib.hid (show ∀ g, v'.ownBlock = some g → g = w.heap.size + 1 ∨ w6.heap.size ≤ g from fun g hg => by
                    rcases hwh with h | h
                    · exact VO.out g (by rw [← h]; exact hg)
                    · right; rw [h] at hg; injection hg with hg; have := T.out.size; (try simp only [World.size_alloc] at hg); first | omega | (have h2 : wr.heap.size + 1 = g := hg; omega))
                  clear hown' hgrow hwh
                  go_wp2
                  go_roundw
                  case rel => exact ⟨j + 1, _, by omega, rfl, by go_num, O7.out, T7.out, VO7.out⟩
                  case measure => simp [intOf]; omega
                · have b3 : decide (min d e ≤ r) = false := by simpa using h3
                  have HY := Lib.hid (NO.out (by rw [BY.out, decide_eq_false_iff_not]; omega))
                  clear YES NO BY
                  go_wp2_with fail
                  refine wp_region_held_drew (S := fun wx => Bl wr wx ∧ wx.cell? ⟨g1, o1 + j, none⟩ = some (.int .i64 d) ∧ wx.cell? ⟨g2, o2 + j, none⟩ = some (.int .i64 e) ∧ wx.cell? ⟨g3, o3 + j, none⟩ = some (.int .i64 r)) (by kernel_rfl) ?_ (fun hHeld => ?_)
                  · (exact HSH.out _ (by repeat' (first | exact Bl.refl _ | with_reducible assumption | with_reducible refine Bl.drew_ ?_ | with_reducible refine Bl.drewN_ ?_ _ | with_reducible refine Bl.alloc_ ?_ _ | with_reducible refine Bl.trans_ ?_ (by assumption) | with_reducible refine Bl.trans_ ?_ (And.left (by assumption)))))
                  refine wpAnyH_take (i := 0) (v := ?_) rfl (by kernel_rfl) (by kernel_rfl) (by kernel_rfl) (fun _ _ _ h => h) (Or.inl ⟨by kernel_rfl, ?_⟩) (by assumption) ?_
                  rotate_left
                  · (intro wx hSw; (try dsimp only at hSw); go_simp; try (with_reducible rfl))
                  try simp only [Act.put, List.getElem_toArray, List.getElem_cons_succ, List.getElem_cons_zero, List.setIfInBounds_toArray, List.set_cons_zero, List.set_cons_succ]
                  refine wpAnyH_take (i := 1) (v := ?_) rfl (by kernel_rfl) (by kernel_rfl) (by kernel_rfl) (fun _ _ _ h => h) (Or.inl ⟨by kernel_rfl, ?_⟩) (by assumption) ?_
                  rotate_left
                  · (intro wx hSw; (try dsimp only at hSw); go_simp; try (with_reducible rfl))
                  try simp only [Act.put, List.getElem_toArray, List.getElem_cons_succ, List.getElem_cons_zero, List.setIfInBounds_toArray, List.set_cons_zero, List.set_cons_succ]
                  refine wpAnyH_take (i := 2) (v := ?_) rfl (by kernel_rfl) (by kernel_rfl) (by kernel_rfl) (fun _ _ _ h => h) (Or.inl ⟨by kernel_rfl, ?_⟩) (by assumption) ?_
                  rotate_left
                  · (intro wx hSw; (try dsimp only at hSw); go_simp; try (with_reducible rfl))
                  try simp only [Act.put, List.getElem_toArray, List.getElem_cons_succ, List.getElem_cons_zero, List.setIfInBounds_toArray, List.set_cons_zero, List.set_cons_succ]
                  refine wpAnyH_take (i := 3) (v := ?_) rfl (by kernel_rfl) (by kernel_rfl) (by kernel_rfl) (fun _ _ _ h => h) (Or.inl ⟨by kernel_rfl, ?_⟩) (by assumption) ?_
                  rotate_left
                  · (intro wx hSw; (try dsimp only at hSw); go_simp; try (with_reducible rfl))
                  try simp only [Act.put, List.getElem_toArray, List.getElem_cons_succ, List.getElem_cons_zero, List.setIfInBounds_toArray, List.set_cons_zero, List.set_cons_succ]
                  refine wpAnyH_take (i := 4) (v := ?_) rfl (by kernel_rfl) (by kernel_rfl) (by kernel_rfl) (fun _ _ _ h => h) (Or.inl ⟨by kernel_rfl, ?_⟩) (by assumption) ?_
                  rotate_left
                  · (intro wx hSw; (try dsimp only at hSw); go_simp; try (with_reducible rfl))
                  try simp only [Act.put, List.getElem_toArray, List.getElem_cons_succ, List.getElem_cons_zero, List.setIfInBounds_toArray, List.set_cons_zero, List.set_cons_succ]
                  refine wpAnyH_take (i := 5) (v := ?_) rfl (by kernel_rfl) (by kernel_rfl) (by kernel_rfl) (fun _ _ _ h => h) (Or.inl ⟨by kernel_rfl, ?_⟩) (by assumption) ?_
                  rotate_left
                  · (intro wx hSw; (try dsimp only at hSw); go_simp; try (with_reducible rfl))
                  try simp only [Act.put, List.getElem_toArray, List.getElem_cons_succ, List.getElem_cons_zero, List.setIfInBounds_toArray, List.set_cons_zero, List.set_cons_succ]
                  refine wpAnyH_take (i := 6) (v := ?_) rfl (by kernel_rfl) (by kernel_rfl) (by kernel_rfl) (fun _ _ _ h => h) (Or.inl ⟨by kernel_rfl, ?_⟩) (by assumption) ?_
                  rotate_left
                  · (intro wx hSw; (try dsimp only at hSw); go_simp; try (with_reducible rfl))
                  try simp only [Act.put, List.getElem_toArray, List.getElem_cons_succ, List.getElem_cons_zero, List.setIfInBounds_toArray, List.set_cons_zero, List.set_cons_succ]
                  refine wpAnyH_take (i := 7) (v := ?_) rfl (by kernel_rfl) (by kernel_rfl) (by kernel_rfl) (fun _ _ _ h => h) (Or.inl ⟨by kernel_rfl, ?_⟩) (by assumption) ?_
                  rotate_left
                  · (intro wx hSw; (try dsimp only at hSw); go_simp; try (with_reducible rfl))
                  try simp only [Act.put, List.getElem_toArray, List.getElem_cons_succ, List.getElem_cons_zero, List.setIfInBounds_toArray, List.set_cons_zero, List.set_cons_succ]
                  refine wpAnyH_take (i := 8) (v := ?_) rfl (by kernel_rfl) (by kernel_rfl) (by kernel_rfl) (fun _ _ _ h => h) (Or.inl ⟨by kernel_rfl, ?_⟩) (by assumption) ?_
                  rotate_left
                  · (intro wx hSw; (try dsimp only at hSw); go_simp; try (with_reducible rfl))
                  try simp only [Act.put, List.getElem_toArray, List.getElem_cons_succ, List.getElem_cons_zero, List.setIfInBounds_toArray, List.set_cons_zero, List.set_cons_succ]
                  refine wpAnyH_take (i := 9) (v := ?_) rfl (by kernel_rfl) (by kernel_rfl) (by kernel_rfl) (fun _ _ _ h => h) (Or.inl ⟨by kernel_rfl, ?_⟩) (by assumption) ?_
                  rotate_left
                  · (intro wx hSw; (try dsimp only at hSw); go_simp; try (with_reducible rfl))
                  try simp only [Act.put, List.getElem_toArray, List.getElem_cons_succ, List.getElem_cons_zero, List.setIfInBounds_toArray, List.set_cons_zero, List.set_cons_succ]
                  refine wpAnyH_take (i := 10) (v := ?_) rfl (by kernel_rfl) (by kernel_rfl) (by kernel_rfl) (fun _ _ _ h => h) (Or.inl ⟨by kernel_rfl, ?_⟩) (by assumption) ?_
                  rotate_left
                  · (intro wx hSw; (try dsimp only at hSw); go_simp; try (with_reducible rfl))
                  try simp only [Act.put, List.getElem_toArray, List.getElem_cons_succ, List.getElem_cons_zero, List.setIfInBounds_toArray, List.set_cons_zero, List.set_cons_succ]
                  refine wpAnyH_take (i := 11) (v := ?_) rfl (by kernel_rfl) (by kernel_rfl) (by kernel_rfl) (fun _ _ _ h => h) (Or.inl ⟨by kernel_rfl, ?_⟩) (by assumption) ?_
                  rotate_left
                  · (intro wx hSw; (try dsimp only at hSw); go_simp; try (with_reducible rfl))
                  try simp only [Act.put, List.getElem_toArray, List.getElem_cons_succ, List.getElem_cons_zero, List.setIfInBounds_toArray, List.set_cons_zero, List.set_cons_succ]
                  refine wpAnyH_take (i := 12) (v := ?_) rfl (by kernel_rfl) (by kernel_rfl) (by kernel_rfl) (fun _ _ _ h => h) (Or.inl ⟨by kernel_rfl, ?_⟩) (by assumption) ?_
                  rotate_left
                  · (intro wx hSw; (try dsimp only at hSw); go_simp; try (with_reducible rfl))
                  try simp only [Act.put, List.getElem_toArray, List.getElem_cons_succ, List.getElem_cons_zero, List.setIfInBounds_toArray, List.set_cons_zero, List.set_cons_succ]
                  refine wpAnyH_take (i := 13) (v := ?_) rfl (by kernel_rfl) (by kernel_rfl) (by kernel_rfl) (fun _ _ _ h => h) (Or.inl ⟨by kernel_rfl, ?_⟩) (by assumption) ?_
                  rotate_left
                  · (intro wx hSw; (try dsimp only at hSw); go_simp; try (with_reducible rfl))
                  try simp only [Act.put, List.getElem_toArray, List.getElem_cons_succ, List.getElem_cons_zero, List.setIfInBounds_toArray, List.set_cons_zero, List.set_cons_succ]
                  refine wpAnyH_take (i := 14) (v := ?_) rfl (by kernel_rfl) (by kernel_rfl) (by kernel_rfl) (fun _ _ _ h => h) (Or.inl ⟨by kernel_rfl, ?_⟩) (by assumption) ?_
                  rotate_left
                  · (intro wx hSw; (try dsimp only at hSw); go_simp; try (with_reducible rfl))
                  try simp only [Act.put, List.getElem_toArray, List.getElem_cons_succ, List.getElem_cons_zero, List.setIfInBounds_toArray, List.set_cons_zero, List.set_cons_succ]
                  refine wpAnyH_take (i := 15) (v := ?_) rfl (by kernel_rfl) (by kernel_rfl) (by kernel_rfl) (fun _ _ _ h => h) (Or.inl ⟨by kernel_rfl, ?_⟩) (by assumption) ?_
                  rotate_left
                  · (intro wx hSw; (try dsimp only at hSw); go_simp; try (with_reducible rfl))
                  try simp only [Act.put, List.getElem_toArray, List.getElem_cons_succ, List.getElem_cons_zero, List.setIfInBounds_toArray, List.set_cons_zero, List.set_cons_succ]
                  refine wpAnyH_take (i := 16) (v := ?_) rfl (by kernel_rfl) (by kernel_rfl) (by kernel_rfl) (fun _ _ _ h => h) (Or.inl ⟨by kernel_rfl, ?_⟩) (by assumption) ?_
                  rotate_left
                  · (intro wx hSw; (try dsimp only at hSw); go_simp; try (with_reducible rfl))
                  try simp only [Act.put, List.getElem_toArray, List.getElem_cons_succ, List.getElem_cons_zero, List.setIfInBounds_toArray, List.set_cons_zero, List.set_cons_succ]
                  refine wpAnyH_take (i := 17) (v := ?_) rfl (by kernel_rfl) (by kernel_rfl) (by kernel_rfl) (fun _ _ _ h => h) (Or.inl ⟨by kernel_rfl, ?_⟩) (by assumption) ?_
                  rotate_left
                  · (intro wx hSw; (try dsimp only at hSw); go_simp; try (with_reducible rfl))
                  try simp only [Act.put, List.getElem_toArray, List.getElem_cons_succ, List.getElem_cons_zero, List.setIfInBounds_toArray, List.set_cons_zero, List.set_cons_succ]
                  refine wpAnyH_take (i := 18) (v := ?_) rfl (by kernel_rfl) (by kernel_rfl) (by kernel_rfl) (fun _ _ _ h => h) (Or.inl ⟨by kernel_rfl, ?_⟩) (by assumption) ?_
                  rotate_left
                  · (intro wx hSw; (try dsimp only at hSw); go_simp; try (with_reducible rfl))
                  try simp only [Act.put, List.getElem_toArray, List.getElem_cons_succ, List.getElem_cons_zero, List.setIfInBounds_toArray, List.set_cons_zero, List.set_cons_succ]
                  refine wpAnyH_take (i := 19) (v := ?_) rfl (by kernel_rfl) (by kernel_rfl) (by kernel_rfl) (fun _ _ _ h => h) (Or.inl ⟨by kernel_rfl, ?_⟩) (by assumption) ?_
                  rotate_left
                  · (intro wx hSw; (try dsimp only at hSw); go_simp; try (with_reducible rfl))
                  try simp only [Act.put, List.getElem_toArray, List.getElem_cons_succ, List.getElem_cons_zero, List.setIfInBounds_toArray, List.set_cons_zero, List.set_cons_succ]
                  refine wpAnyH_take (i := 20) (v := ?_) rfl (by kernel_rfl) (by kernel_rfl) (by kernel_rfl) (fun _ _ _ h => h) (Or.inl ⟨by kernel_rfl, ?_⟩) (by assumption) ?_
                  rotate_left
                  · (intro wx hSw; (try dsimp only at hSw); go_simp; try (with_reducible rfl))
                  try simp only [Act.put, List.getElem_toArray, List.getElem_cons_succ, List.getElem_cons_zero, List.setIfInBounds_toArray, List.set_cons_zero, List.set_cons_succ]
                  refine wpAnyH_take (i := 21) (v := ?_) rfl (by kernel_rfl) (by kernel_rfl) (by kernel_rfl) (fun _ _ _ h => h) (Or.inl ⟨by kernel_rfl, ?_⟩) (by assumption) ?_
                  rotate_left
                  · (intro wx hSw; (try dsimp only at hSw); go_simp; try (with_reducible rfl))
                  try simp only [Act.put, List.getElem_toArray, List.getElem_cons_succ, List.getElem_cons_zero, List.setIfInBounds_toArray, List.set_cons_zero, List.set_cons_succ]
                  refine wpAnyH_take (i := 22) (v := ?_) rfl (by kernel_rfl) (by kernel_rfl) (by kernel_rfl) (fun _ _ _ h => h) (Or.inl ⟨by kernel_rfl, ?_⟩) (by assumption) ?_
                  rotate_left
                  · (intro wx hSw; (try dsimp only at hSw); go_simp; try (with_reducible rfl))
                  try simp only [Act.put, List.getElem_toArray, List.getElem_cons_succ, List.getElem_cons_zero, List.setIfInBounds_toArray, List.set_cons_zero, List.set_cons_succ]
                  refine wpAnyH_take (i := 23) (v := ?_) rfl (by kernel_rfl) (by kernel_rfl) (by kernel_rfl) (fun _ _ _ h => h) (Or.inl ⟨by kernel_rfl, ?_⟩) (by assumption) ?_
                  rotate_left
                  · (intro wx hSw; (try dsimp only at hSw); go_simp; try (with_reducible rfl))
                  try simp only [Act.put, List.getElem_toArray, List.getElem_cons_succ, List.getElem_cons_zero, List.setIfInBounds_toArray, List.set_cons_zero, List.set_cons_succ]
                  refine wpAnyH_take (i := 24) (v := ?_) rfl (by kernel_rfl) (by kernel_rfl) (by kernel_rfl) (fun _ _ _ h => h) (Or.inl ⟨by kernel_rfl, ?_⟩) (by assumption) ?_
                  rotate_left
                  · (intro wx hSw; (try dsimp only at hSw); go_simp; try (with_reducible rfl))
                  try simp only [Act.put, List.getElem_toArray, List.getElem_cons_succ, List.getElem_cons_zero, List.setIfInBounds_toArray, List.set_cons_zero, List.set_cons_succ]
                  refine wpAnyH_ready (rs := [25]) (by kernel_rfl) (by simp) ?_
                  refine AllReadyH.cons rfl (fun K hK => ?_) AllReadyH.nil
                  go_simp
                  refine hK.out _ _ ?_ (fun hHeld => ?_)
                  · (exact HSH.out _ (by repeat' (first | exact Bl.refl _ | with_reducible assumption | with_reducible refine Bl.drew_ ?_ | with_reducible refine Bl.drewN_ ?_ _ | with_reducible refine Bl.alloc_ ?_ _ | with_reducible refine Bl.trans_ ?_ (by assumption) | with_reducible refine Bl.trans_ ?_ (And.left (by assumption)))))
                  clear hK K
                  try simp only [Act.put, List.getElem_toArray, List.getElem_cons_succ, List.getElem_cons_zero, List.setIfInBounds_toArray, List.set_cons_zero, List.set_cons_succ]
                  refine wpAnyH_take (i := 26) (v := ?_) rfl (by kernel_rfl) (by kernel_rfl) (by kernel_rfl) (fun _ _ _ h => h) (Or.inl ⟨by kernel_rfl, ?_⟩) (by assumption) ?_
                  rotate_left
                  · (intro wx hSw; (try dsimp only at hSw); go_simp; try (with_reducible rfl))
                  try simp only [Act.put, List.getElem_toArray, List.getElem_cons_succ, List.getElem_cons_zero, List.setIfInBounds_toArray, List.set_cons_zero, List.set_cons_succ]
                  refine wpAnyH_take (i := 27) (v := ?_) rfl (by kernel_rfl) (by kernel_rfl) (by kernel_rfl) (fun _ _ _ h => h) (Or.inl ⟨by kernel_rfl, ?_⟩) (by assumption) ?_
                  rotate_left
                  · (intro wx hSw; (try dsimp only at hSw); go_simp; try (with_reducible rfl))
                  try simp only [Act.put, List.getElem_toArray, List.getElem_cons_succ, List.getElem_cons_zero, List.setIfInBounds_toArray, List.set_cons_zero, List.set_cons_succ]
                  refine wpAnyH_done (by kernel_rfl) ?_ _
                  go_wp2
                  go_roundw
                  case rel => exact ⟨j + 1, _, by omega, rfl, by go_num, by rw [HY.out]; exact OwnN.bl O.out (by repeat' (first | exact Bl.refl _ | with_reducible assumption | with_reducible refine Bl.drew_ ?_ | with_reducible refine Bl.drewN_ ?_ _ | with_reducible refine Bl.alloc_ ?_ _ | with_reducible refine Bl.trans_ ?_ (by assumption) | with_reducible refine Bl.trans_ ?_ (And.left (by assumption)))), T.out.bl (by repeat' (first | exact Bl.refl _ | with_reducible assumption | with_reducible refine Bl.drew_ ?_ | with_reducible refine Bl.drewN_ ?_ _ | with_reducible refine Bl.alloc_ ?_ _ | with_reducible refine Bl.trans_ ?_ (by assumption) | with_reducible refine Bl.trans_ ?_ (And.left (by assumption)))), VO.out⟩
                  case measure => simp [intOf]; omega
              · have b2 : decide (0 ≤ e) = false := by simpa using h2
                have HY := Lib.hid (NO.out (by rw [BY.out, decide_eq_false_iff_not]; omega))
                clear YES NO BY
                go_wp2_with fail
                refine wp_region_held_drew (S := fun wx => Bl wr wx ∧ wx.cell? ⟨g1, o1 + j, none⟩ = some (.int .i64 d) ∧ wx.cell? ⟨g2, o2 + j, none⟩ = some (.int .i64 e) ∧ wx.cell? ⟨g3, o3 + j, none⟩ = some (.int .i64 r)) (by kernel_rfl) ?_ (fun hHeld => ?_)
                · (exact HSH.out _ (by repeat' (first | exact Bl.refl _ | with_reducible assumption | with_reducible refine Bl.drew_ ?_ | with_reducible refine Bl.drewN_ ?_ _ | with_reducible refine Bl.alloc_ ?_ _ | with_reducible refine Bl.trans_ ?_ (by assumption) | with_reducible refine Bl.trans_ ?_ (And.left (by assumption)))))
                refine wpAnyH_take (i := 0) (v := ?_) rfl (by kernel_rfl) (by kernel_rfl) (by kernel_rfl) (fun _ _ _ h => h) (Or.inl ⟨by kernel_rfl, ?_⟩) (by assumption) ?_
                rotate_left
                · (intro wx hSw; (try dsimp only at hSw); go_simp; try (with_reducible rfl))
                try simp only [Act.put, List.getElem_toArray, List.getElem_cons_succ, List.getElem_cons_zero, List.setIfInBounds_toArray, List.set_cons_zero, List.set_cons_succ]
                refine wpAnyH_take (i := 1) (v := ?_) rfl (by kernel_rfl) (by kernel_rfl) (by kernel_rfl) (fun _ _ _ h => h) (Or.inl ⟨by kernel_rfl, ?_⟩) (by assumption) ?_
                rotate_left
                · (intro wx hSw; (try dsimp only at hSw); go_simp; try (with_reducible rfl))
                try simp only [Act.put, List.getElem_toArray, List.getElem_cons_succ, List.getElem_cons_zero, List.setIfInBounds_toArray, List.set_cons_zero, List.set_cons_succ]
                refine wpAnyH_take (i := 2) (v := ?_) rfl (by kernel_rfl) (by kernel_rfl) (by kernel_rfl) (fun _ _ _ h => h) (Or.inl ⟨by kernel_rfl, ?_⟩) (by assumption) ?_
                rotate_left
                · (intro wx hSw; (try dsimp only at hSw); go_simp; try (with_reducible rfl))
                try simp only [Act.put, List.getElem_toArray, List.getElem_cons_succ, List.getElem_cons_zero, List.setIfInBounds_toArray, List.set_cons_zero, List.set_cons_succ]
                refine wpAnyH_take (i := 3) (v := ?_) rfl (by kernel_rfl) (by kernel_rfl) (by kernel_rfl) (fun _ _ _ h => h) (Or.inl ⟨by kernel_rfl, ?_⟩) (by assumption) ?_
                rotate_left
                · (intro wx hSw; (try dsimp only at hSw); go_simp; try (with_reducible rfl))
                try simp only [Act.put, List.getElem_toArray, List.getElem_cons_succ, List.getElem_cons_zero, List.setIfInBounds_toArray, List.set_cons_zero, List.set_cons_succ]
                refine wpAnyH_take (i := 4) (v := ?_) rfl (by kernel_rfl) (by kernel_rfl) (by kernel_rfl) (fun _ _ _ h => h) (Or.inl ⟨by kernel_rfl, ?_⟩) (by assumption) ?_
                rotate_left
                · (intro wx hSw; (try dsimp only at hSw); go_simp; try (with_reducible rfl))
                try simp only [Act.put, List.getElem_toArray, List.getElem_cons_succ, List.getElem_cons_zero, List.setIfInBounds_toArray, List.set_cons_zero, List.set_cons_succ]
                refine wpAnyH_take (i := 5) (v := ?_) rfl (by kernel_rfl) (by kernel_rfl) (by kernel_rfl) (fun _ _ _ h => h) (Or.inl ⟨by kernel_rfl, ?_⟩) (by assumption) ?_
                rotate_left
                · (intro wx hSw; (try dsimp only at hSw); go_simp; try (with_reducible rfl))
                try simp only [Act.put, List.getElem_toArray, List.getElem_cons_succ, List.getElem_cons_zero, List.setIfInBounds_toArray, List.set_cons_zero, List.set_cons_succ]
                refine wpAnyH_take (i := 6) (v := ?_) rfl (by kernel_rfl) (by kernel_rfl) (by kernel_rfl) (fun _ _ _ h => h) (Or.inl ⟨by kernel_rfl, ?_⟩) (by assumption) ?_
                rotate_left
                · (intro wx hSw; (try dsimp only at hSw); go_simp; try (with_reducible rfl))
                try simp only [Act.put, List.getElem_toArray, List.getElem_cons_succ, List.getElem_cons_zero, List.setIfInBounds_toArray, List.set_cons_zero, List.set_cons_succ]
                refine wpAnyH_take (i := 7) (v := ?_) rfl (by kernel_rfl) (by kernel_rfl) (by kernel_rfl) (fun _ _ _ h => h) (Or.inl ⟨by kernel_rfl, ?_⟩) (by assumption) ?_
                rotate_left
                · (intro wx hSw; (try dsimp only at hSw); go_simp; try (with_reducible rfl))
                try simp only [Act.put, List.getElem_toArray, List.getElem_cons_succ, List.getElem_cons_zero, List.setIfInBounds_toArray, List.set_cons_zero, List.set_cons_succ]
                refine wpAnyH_take (i := 8) (v := ?_) rfl (by kernel_rfl) (by kernel_rfl) (by kernel_rfl) (fun _ _ _ h => h) (Or.inl ⟨by kernel_rfl, ?_⟩) (by assumption) ?_
                rotate_left
                · (intro wx hSw; (try dsimp only at hSw); go_simp; try (with_reducible rfl))
                try simp only [Act.put, List.getElem_toArray, List.getElem_cons_succ, List.getElem_cons_zero, List.setIfInBounds_toArray, List.set_cons_zero, List.set_cons_succ]
                refine wpAnyH_take (i := 9) (v := ?_) rfl (by kernel_rfl) (by kernel_rfl) (by kernel_rfl) (fun _ _ _ h => h) (Or.inl ⟨by kernel_rfl, ?_⟩) (by assumption) ?_
                rotate_left
                · (intro wx hSw; (try dsimp only at hSw); go_simp; try (with_reducible rfl))
                try simp only [Act.put, List.getElem_toArray, List.getElem_cons_succ, List.getElem_cons_zero, List.setIfInBounds_toArray, List.set_cons_zero, List.set_cons_succ]
                refine wpAnyH_take (i := 10) (v := ?_) rfl (by kernel_rfl) (by kernel_rfl) (by kernel_rfl) (fun _ _ _ h => h) (Or.inl ⟨by kernel_rfl, ?_⟩) (by assumption) ?_
                rotate_left
                · (intro wx hSw; (try dsimp only at hSw); go_simp; try (with_reducible rfl))
                try simp only [Act.put, List.getElem_toArray, List.getElem_cons_succ, List.getElem_cons_zero, List.setIfInBounds_toArray, List.set_cons_zero, List.set_cons_succ]
                refine wpAnyH_take (i := 11) (v := ?_) rfl (by kernel_rfl) (by kernel_rfl) (by kernel_rfl) (fun _ _ _ h => h) (Or.inl ⟨by kernel_rfl, ?_⟩) (by assumption) ?_
                rotate_left
                · (intro wx hSw; (try dsimp only at hSw); go_simp; try (with_reducible rfl))
                try simp only [Act.put, List.getElem_toArray, List.getElem_cons_succ, List.getElem_cons_zero, List.setIfInBounds_toArray, List.set_cons_zero, List.set_cons_succ]
                refine wpAnyH_take (i := 12) (v := ?_) rfl (by kernel_rfl) (by kernel_rfl) (by kernel_rfl) (fun _ _ _ h => h) (Or.inl ⟨by kernel_rfl, ?_⟩) (by assumption) ?_
                rotate_left
                · (intro wx hSw; (try dsimp only at hSw); go_simp; try (with_reducible rfl))
                try simp only [Act.put, List.getElem_toArray, List.getElem_cons_succ, List.getElem_cons_zero, List.setIfInBounds_toArray, List.set_cons_zero, List.set_cons_succ]
                refine wpAnyH_take (i := 13) (v := undef) rfl (by kernel_rfl) (by kernel_rfl) (by kernel_rfl) (fun _ _ _ h => h) (Or.inr ⟨by kernel_rfl, rfl⟩) (by assumption) ?_
                try simp only [Act.put, List.getElem_toArray, List.getElem_cons_succ, List.getElem_cons_zero, List.setIfInBounds_toArray, List.set_cons_zero, List.set_cons_succ]
                refine wpAnyH_take (i := 14) (v := undef) rfl (by kernel_rfl) (by kernel_rfl) (by kernel_rfl) (fun _ _ _ h => h) (Or.inr ⟨by kernel_rfl, rfl⟩) (by assumption) ?_
                try simp only [Act.put, List.getElem_toArray, List.getElem_cons_succ, List.getElem_cons_zero, List.setIfInBounds_toArray, List.set_cons_zero, List.set_cons_succ]
                refine wpAnyH_take (i := 15) (v := undef) rfl (by kernel_rfl) (by kernel_rfl) (by kernel_rfl) (fun _ _ _ h => h) (Or.inr ⟨by kernel_rfl, rfl⟩) (by assumption) ?_
                try simp only [Act.put, List.getElem_toArray, List.getElem_cons_succ, List.getElem_cons_zero, List.setIfInBounds_toArray, List.set_cons_zero, List.set_cons_succ]
                refine wpAnyH_take (i := 16) (v := undef) rfl (by kernel_rfl) (by kernel_rfl) (by kernel_rfl) (fun _ _ _ h => h) (Or.inr ⟨by kernel_rfl, rfl⟩) (by assumption) ?_
                try simp only [Act.put, List.getElem_toArray, List.getElem_cons_succ, List.getElem_cons_zero, List.setIfInBounds_toArray, List.set_cons_zero, List.set_cons_succ]
                refine wpAnyH_take (i := 17) (v := undef) rfl (by kernel_rfl) (by kernel_rfl) (by kernel_rfl) (fun _ _ _ h => h) (Or.inr ⟨by kernel_rfl, rfl⟩) (by assumption) ?_
                try simp only [Act.put, List.getElem_toArray, List.getElem_cons_succ, List.getElem_cons_zero, List.setIfInBounds_toArray, List.set_cons_zero, List.set_cons_succ]
                refine wpAnyH_take (i := 18) (v := undef) rfl (by kernel_rfl) (by kernel_rfl) (by kernel_rfl) (fun _ _ _ h => h) (Or.inr ⟨by kernel_rfl, rfl⟩) (by assumption) ?_
                try simp only [Act.put, List.getElem_toArray, List.getElem_cons_succ, List.getElem_cons_zero, List.setIfInBounds_toArray, List.set_cons_zero, List.set_cons_succ]
                refine wpAnyH_take (i := 19) (v := undef) rfl (by kernel_rfl) (by kernel_rfl) (by kernel_rfl) (fun _ _ _ h => h) (Or.inr ⟨by kernel_rfl, rfl⟩) (by assumption) ?_
                try simp only [Act.put, List.getElem_toArray, List.getElem_cons_succ, List.getElem_cons_zero, List.setIfInBounds_toArray, List.set_cons_zero, List.set_cons_succ]
                refine wpAnyH_take (i := 20) (v := undef) rfl (by kernel_rfl) (by kernel_rfl) (by kernel_rfl) (fun _ _ _ h => h) (Or.inr ⟨by kernel_rfl, rfl⟩) (by assumption) ?_
                try simp only [Act.put, List.getElem_toArray, List.getElem_cons_succ, List.getElem_cons_zero, List.setIfInBounds_toArray, List.set_cons_zero, List.set_cons_succ]
                refine wpAnyH_take (i := 21) (v := undef) rfl (by kernel_rfl) (by kernel_rfl) (by kernel_rfl) (fun _ _ _ h => h) (Or.inr ⟨by kernel_rfl, rfl⟩) (by assumption) ?_
                try simp only [Act.put, List.getElem_toArray, List.getElem_cons_succ, List.getElem_cons_zero, List.setIfInBounds_toArray, List.set_cons_zero, List.set_cons_succ]
                refine wpAnyH_take (i := 22) (v := undef) rfl (by kernel_rfl) (by kernel_rfl) (by kernel_rfl) (fun _ _ _ h => h) (Or.inr ⟨by kernel_rfl, rfl⟩) (by assumption) ?_
                try simp only [Act.put, List.getElem_toArray, List.getElem_cons_succ, List.getElem_cons_zero, List.setIfInBounds_toArray, List.set_cons_zero, List.set_cons_succ]
                refine wpAnyH_take (i := 23) (v := undef) rfl (by kernel_rfl) (by kernel_rfl) (by kernel_rfl) (fun _ _ _ h => h) (Or.inr ⟨by kernel_rfl, rfl⟩) (by assumption) ?_
                try simp only [Act.put, List.getElem_toArray, List.getElem_cons_succ, List.getElem_cons_zero, List.setIfInBounds_toArray, List.set_cons_zero, List.set_cons_succ]
                refine wpAnyH_take (i := 24) (v := undef) rfl (by kernel_rfl) (by kernel_rfl) (by kernel_rfl) (fun _ _ _ h => h) (Or.inr ⟨by kernel_rfl, rfl⟩) (by assumption) ?_
                try simp only [Act.put, List.getElem_toArray, List.getElem_cons_succ, List.getElem_cons_zero, List.setIfInBounds_toArray, List.set_cons_zero, List.set_cons_succ]
                refine wpAnyH_ready (rs := [25]) (by kernel_rfl) (by simp) ?_
                refine AllReadyH.cons rfl (fun K hK => ?_) AllReadyH.nil
                go_simp
                refine hK.out _ _ ?_ (fun hHeld => ?_)
                · (exact HSH.out _ (by repeat' (first | exact Bl.refl _ | with_reducible assumption | with_reducible refine Bl.drew_ ?_ | with_reducible refine Bl.drewN_ ?_ _ | with_reducible refine Bl.alloc_ ?_ _ | with_reducible refine Bl.trans_ ?_ (by assumption) | with_reducible refine Bl.trans_ ?_ (And.left (by assumption)))))
                clear hK K
                try simp only [Act.put, List.getElem_toArray, List.getElem_cons_succ, List.getElem_cons_zero, List.setIfInBounds_toArray, List.set_cons_zero, List.set_cons_succ]
                refine wpAnyH_take (i := 26) (v := undef) rfl (by kernel_rfl) (by kernel_rfl) (by kernel_rfl) (fun _ _ _ h => h) (Or.inr ⟨by kernel_rfl, rfl⟩) (by assumption) ?_
                try simp only [Act.put, List.getElem_toArray, List.getElem_cons_succ, List.getElem_cons_zero, List.setIfInBounds_toArray, List.set_cons_zero, List.set_cons_succ]
                refine wpAnyH_take (i := 27) (v := ?_) rfl (by kernel_rfl) (by kernel_rfl) (by kernel_rfl) (fun _ _ _ h => h) (Or.inl ⟨by kernel_rfl, ?_⟩) (by assumption) ?_
                rotate_left
                · (intro wx hSw; (try dsimp only at hSw); go_simp; try (with_reducible rfl))
                try simp only [Act.put, List.getElem_toArray, List.getElem_cons_succ, List.getElem_cons_zero, List.setIfInBounds_toArray, List.set_cons_zero, List.set_cons_succ]
                refine wpAnyH_done (by kernel_rfl) ?_ _
                go_wp2
                go_roundw
                case rel => exact ⟨j + 1, _, by omega, rfl, by go_num, by rw [HY.out]; exact OwnN.bl O.out (by repeat' (first | exact Bl.refl _ | with_reducible assumption | with_reducible refine Bl.drew_ ?_ | with_reducible refine Bl.drewN_ ?_ _ | with_reducible refine Bl.alloc_ ?_ _ | with_reducible refine Bl.trans_ ?_ (by assumption) | with_reducible refine Bl.trans_ ?_ (And.left (by assumption)))), T.out.bl (by repeat' (first | exact Bl.refl _ | with_reducible assumption | with_reducible refine Bl.drew_ ?_ | with_reducible refine Bl.drewN_ ?_ _ | with_reducible refine Bl.alloc_ ?_ _ | with_reducible refine Bl.trans_ ?_ (by assumption) | with_reducible refine Bl.trans_ ?_ (And.left (by assumption)))), VO.out⟩
                case measure => simp [intOf]; omega
            · have b1 : decide (0 ≤ d) = false := by simpa using h1
              have HY := Lib.hid (NO.out (by rw [BY.out, decide_eq_false_iff_not]; omega))
              clear YES NO BY
              go_wp2_with fail
              refine wp_region_held_drew (S := fun wx => Bl wr wx ∧ wx.cell? ⟨g1, o1 + j, none⟩ = some (.int .i64 d) ∧ wx.cell? ⟨g2, o2 + j, none⟩ = some (.int .i64 e) ∧ wx.cell? ⟨g3, o3 + j, none⟩ = some (.int .i64 r)) (by kernel_rfl) ?_ (fun hHeld => ?_)
              · (exact HSH.out _ (by repeat' (first | exact Bl.refl _ | with_reducible assumption | with_reducible refine Bl.drew_ ?_ | with_reducible refine Bl.drewN_ ?_ _ | with_reducible refine Bl.alloc_ ?_ _ | with_reducible refine Bl.trans_ ?_ (by assumption) | with_reducible refine Bl.trans_ ?_ (And.left (by assumption)))))
              refine wpAnyH_take (i := 0) (v := ?_) rfl (by kernel_rfl) (by kernel_rfl) (by kernel_rfl) (fun _ _ _ h => h) (Or.inl ⟨by kernel_rfl, ?_⟩) (by assumption) ?_
              rotate_left
              · (intro wx hSw; (try dsimp only at hSw); go_simp; try (with_reducible rfl))
              try simp only [Act.put, List.getElem_toArray, List.getElem_cons_succ, List.getElem_cons_zero, List.setIfInBounds_toArray, List.set_cons_zero, List.set_cons_succ]
              refine wpAnyH_take (i := 1) (v := ?_) rfl (by kernel_rfl) (by kernel_rfl) (by kernel_rfl) (fun _ _ _ h => h) (Or.inl ⟨by kernel_rfl, ?_⟩) (by assumption) ?_
              rotate_left
              · (intro wx hSw; (try dsimp only at hSw); go_simp; try (with_reducible rfl))
              try simp only [Act.put, List.getElem_toArray, List.getElem_cons_succ, List.getElem_cons_zero, List.setIfInBounds_toArray, List.set_cons_zero, List.set_cons_succ]
              refine wpAnyH_take (i := 2) (v := ?_) rfl (by kernel_rfl) (by kernel_rfl) (by kernel_rfl) (fun _ _ _ h => h) (Or.inl ⟨by kernel_rfl, ?_⟩) (by assumption) ?_
              rotate_left
              · (intro wx hSw; (try dsimp only at hSw); go_simp; try (with_reducible rfl))
              try simp only [Act.put, List.getElem_toArray, List.getElem_cons_succ, List.getElem_cons_zero, List.setIfInBounds_toArray, List.set_cons_zero, List.set_cons_succ]
              refine wpAnyH_take (i := 3) (v := ?_) rfl (by kernel_rfl) (by kernel_rfl) (by kernel_rfl) (fun _ _ _ h => h) (Or.inl ⟨by kernel_rfl, ?_⟩) (by assumption) ?_
              rotate_left
              · (intro wx hSw; (try dsimp only at hSw); go_simp; try (with_reducible rfl))
              try simp only [Act.put, List.getElem_toArray, List.getElem_cons_succ, List.getElem_cons_zero, List.setIfInBounds_toArray, List.set_cons_zero, List.set_cons_succ]
              refine wpAnyH_take (i := 4) (v := ?_) rfl (by kernel_rfl) (by kernel_rfl) (by kernel_rfl) (fun _ _ _ h => h) (Or.inl ⟨by kernel_rfl, ?_⟩) (by assumption) ?_
              rotate_left
              · (intro wx hSw; (try dsimp only at hSw); go_simp; try (with_reducible rfl))
              try simp only [Act.put, List.getElem_toArray, List.getElem_cons_succ, List.getElem_cons_zero, List.setIfInBounds_toArray, List.set_cons_zero, List.set_cons_succ]
              refine wpAnyH_take (i := 5) (v := ?_) rfl (by kernel_rfl) (by kernel_rfl) (by kernel_rfl) (fun _ _ _ h => h) (Or.inl ⟨by kernel_rfl, ?_⟩) (by assumption) ?_
              rotate_left
              · (intro wx hSw; (try dsimp only at hSw); go_simp; try (with_reducible rfl))
              try simp only [Act.put, List.getElem_toArray, List.getElem_cons_succ, List.getElem_cons_zero, List.setIfInBounds_toArray, List.set_cons_zero, List.set_cons_succ]
              refine wpAnyH_take (i := 6) (v := undef) rfl (by kernel_rfl) (by kernel_rfl) (by kernel_rfl) (fun _ _ _ h => h) (Or.inr ⟨by kernel_rfl, rfl⟩) (by assumption) ?_
              try simp only [Act.put, List.getElem_toArray, List.getElem_cons_succ, List.getElem_cons_zero, List.setIfInBounds_toArray, List.set_cons_zero, List.set_cons_succ]
              refine wpAnyH_take (i := 7) (v := undef) rfl (by kernel_rfl) (by kernel_rfl) (by kernel_rfl) (fun _ _ _ h => h) (Or.inr ⟨by kernel_rfl, rfl⟩) (by assumption) ?_
              try simp only [Act.put, List.getElem_toArray, List.getElem_cons_succ, List.getElem_cons_zero, List.setIfInBounds_toArray, List.set_cons_zero, List.set_cons_succ]
              refine wpAnyH_take (i := 8) (v := undef) rfl (by kernel_rfl) (by kernel_rfl) (by kernel_rfl) (fun _ _ _ h => h) (Or.inr ⟨by kernel_rfl, rfl⟩) (by assumption) ?_
              try simp only [Act.put, List.getElem_toArray, List.getElem_cons_succ, List.getElem_cons_zero, List.setIfInBounds_toArray, List.set_cons_zero, List.set_cons_succ]
              refine wpAnyH_take (i := 9) (v := undef) rfl (by kernel_rfl) (by kernel_rfl) (by kernel_rfl) (fun _ _ _ h => h) (Or.inr ⟨by kernel_rfl, rfl⟩) (by assumption) ?_
              try simp only [Act.put, List.getElem_toArray, List.getElem_cons_succ, List.getElem_cons_zero, List.setIfInBounds_toArray, List.set_cons_zero, List.set_cons_succ]
              refine wpAnyH_take (i := 10) (v := undef) rfl (by kernel_rfl) (by kernel_rfl) (by kernel_rfl) (fun _ _ _ h => h) (Or.inr ⟨by kernel_rfl, rfl⟩) (by assumption) ?_
              try simp only [Act.put, List.getElem_toArray, List.getElem_cons_succ, List.getElem_cons_zero, List.setIfInBounds_toArray, List.set_cons_zero, List.set_cons_succ]
              refine wpAnyH_take (i := 11) (v := ?_) rfl (by kernel_rfl) (by kernel_rfl) (by kernel_rfl) (fun _ _ _ h => h) (Or.inl ⟨by kernel_rfl, ?_⟩) (by assumption) ?_
              rotate_left
              · (intro wx hSw; (try dsimp only at hSw); go_simp; try (with_reducible rfl))
              try simp only [Act.put, List.getElem_toArray, List.getElem_cons_succ, List.getElem_cons_zero, List.setIfInBounds_toArray, List.set_cons_zero, List.set_cons_succ]
              refine wpAnyH_take (i := 12) (v := ?_) rfl (by kernel_rfl) (by kernel_rfl) (by kernel_rfl) (fun _ _ _ h => h) (Or.inl ⟨by kernel_rfl, ?_⟩) (by assumption) ?_
              rotate_left
              · (intro wx hSw; (try dsimp only at hSw); go_simp; try (with_reducible rfl))
              try simp only [Act.put, List.getElem_toArray, List.getElem_cons_succ, List.getElem_cons_zero, List.setIfInBounds_toArray, List.set_cons_zero, List.set_cons_succ]
              refine wpAnyH_take (i := 13) (v := undef) rfl (by kernel_rfl) (by kernel_rfl) (by kernel_rfl) (fun _ _ _ h => h) (Or.inr ⟨by kernel_rfl, rfl⟩) (by assumption) ?_
              try simp only [Act.put, List.getElem_toArray, List.getElem_cons_succ, List.getElem_cons_zero, List.setIfInBounds_toArray, List.set_cons_zero, List.set_cons_succ]
              refine wpAnyH_take (i := 14) (v := undef) rfl (by kernel_rfl) (by kernel_rfl) (by kernel_rfl) (fun _ _ _ h => h) (Or.inr ⟨by kernel_rfl, rfl⟩) (by assumption) ?_
              try simp only [Act.put, List.getElem_toArray, List.getElem_cons_succ, List.getElem_cons_zero, List.setIfInBounds_toArray, List.set_cons_zero, List.set_cons_succ]
              refine wpAnyH_take (i := 15) (v := undef) rfl (by kernel_rfl) (by kernel_rfl) (by kernel_rfl) (fun _ _ _ h => h) (Or.inr ⟨by kernel_rfl, rfl⟩) (by assumption) ?_
              try simp only [Act.put, List.getElem_toArray, List.getElem_cons_succ, List.getElem_cons_zero, List.setIfInBounds_toArray, List.set_cons_zero, List.set_cons_succ]
              refine wpAnyH_take (i := 16) (v := undef) rfl (by kernel_rfl) (by kernel_rfl) (by kernel_rfl) (fun _ _ _ h => h) (Or.inr ⟨by kernel_rfl, rfl⟩) (by assumption) ?_
              try simp only [Act.put, List.getElem_toArray, List.getElem_cons_succ, List.getElem_cons_zero, List.setIfInBounds_toArray, List.set_cons_zero, List.set_cons_succ]
              refine wpAnyH_take (i := 17) (v := undef) rfl (by kernel_rfl) (by kernel_rfl) (by kernel_rfl) (fun _ _ _ h => h) (Or.inr ⟨by kernel_rfl, rfl⟩) (by assumption) ?_
              try simp only [Act.put, List.getElem_toArray, List.getElem_cons_succ, List.getElem_cons_zero, List.setIfInBounds_toArray, List.set_cons_zero, List.set_cons_succ]
              refine wpAnyH_take (i := 18) (v := undef) rfl (by kernel_rfl) (by kernel_rfl) (by kernel_rfl) (fun _ _ _ h => h) (Or.inr ⟨by kernel_rfl, rfl⟩) (by assumption) ?_
              try simp only [Act.put, List.getElem_toArray, List.getElem_cons_succ, List.getElem_cons_zero, List.setIfInBounds_toArray, List.set_cons_zero, List.set_cons_succ]
              refine wpAnyH_take (i := 19) (v := undef) rfl (by kernel_rfl) (by kernel_rfl) (by kernel_rfl) (fun _ _ _ h => h) (Or.inr ⟨by kernel_rfl, rfl⟩) (by assumption) ?_
              try simp only [Act.put, List.getElem_toArray, List.getElem_cons_succ, List.getElem_cons_zero, List.setIfInBounds_toArray, List.set_cons_zero, List.set_cons_succ]
              refine wpAnyH_take (i := 20) (v := undef) rfl (by kernel_rfl) (by kernel_rfl) (by kernel_rfl) (fun _ _ _ h => h) (Or.inr ⟨by kernel_rfl, rfl⟩) (by assumption) ?_
              try simp only [Act.put, List.getElem_toArray, List.getElem_cons_succ, List.getElem_cons_zero, List.setIfInBounds_toArray, List.set_cons_zero, List.set_cons_succ]
              refine wpAnyH_take (i := 21) (v := undef) rfl (by kernel_rfl) (by kernel_rfl) (by kernel_rfl) (fun _ _ _ h => h) (Or.inr ⟨by kernel_rfl, rfl⟩) (by assumption) ?_
              try simp only [Act.put, List.getElem_toArray, List.getElem_cons_succ, List.getElem_cons_zero, List.setIfInBounds_toArray, List.set_cons_zero, List.set_cons_succ]
              refine wpAnyH_take (i := 22) (v := undef) rfl (by kernel_rfl) (by kernel_rfl) (by kernel_rfl) (fun _ _ _ h => h) (Or.inr ⟨by kernel_rfl, rfl⟩) (by assumption) ?_
              try simp only [Act.put, List.getElem_toArray, List.getElem_cons_succ, List.getElem_cons_zero, List.setIfInBounds_toArray, List.set_cons_zero, List.set_cons_succ]
              refine wpAnyH_take (i := 23) (v := undef) rfl (by kernel_rfl) (by kernel_rfl) (by kernel_rfl) (fun _ _ _ h => h) (Or.inr ⟨by kernel_rfl, rfl⟩) (by assumption) ?_
              try simp only [Act.put, List.getElem_toArray, List.getElem_cons_succ, List.getElem_cons_zero, List.setIfInBounds_toArray, List.set_cons_zero, List.set_cons_succ]
              refine wpAnyH_take (i := 24) (v := undef) rfl (by kernel_rfl) (by kernel_rfl) (by kernel_rfl) (fun _ _ _ h => h) (Or.inr ⟨by kernel_rfl, rfl⟩) (by assumption) ?_
              try simp only [Act.put, List.getElem_toArray, List.getElem_cons_succ, List.getElem_cons_zero, List.setIfInBounds_toArray, List.set_cons_zero, List.set_cons_succ]
              refine wpAnyH_ready (rs := [25]) (by kernel_rfl) (by simp) ?_
              refine AllReadyH.cons rfl (fun K hK => ?_) AllReadyH.nil
              go_simp
              refine hK.out _ _ ?_ (fun hHeld => ?_)
              · (exact HSH.out _ (by repeat' (first | exact Bl.refl _ | with_reducible assumption | with_reducible refine Bl.drew_ ?_ | with_reducible refine Bl.drewN_ ?_ _ | with_reducible refine Bl.alloc_ ?_ _ | with_reducible refine Bl.trans_ ?_ (by assumption) | with_reducible refine Bl.trans_ ?_ (And.left (by assumption)))))
              clear hK K
              try simp only [Act.put, List.getElem_toArray, List.getElem_cons_succ, List.getElem_cons_zero, List.setIfInBounds_toArray, List.set_cons_zero, List.set_cons_succ]
              refine wpAnyH_take (i := 26) (v := undef) rfl (by kernel_rfl) (by kernel_rfl) (by kernel_rfl) (fun _ _ _ h => h) (Or.inr ⟨by kernel_rfl, rfl⟩) (by assumption) ?_
              try simp only [Act.put, List.getElem_toArray, List.getElem_cons_succ, List.getElem_cons_zero, List.setIfInBounds_toArray, List.set_cons_zero, List.set_cons_succ]
              refine wpAnyH_take (i := 27) (v := ?_) rfl (by kernel_rfl) (by kernel_rfl) (by kernel_rfl) (fun _ _ _ h => h) (Or.inl ⟨by kernel_rfl, ?_⟩) (by assumption) ?_
              rotate_left
              · (intro wx hSw; (try dsimp only at hSw); go_simp; try (with_reducible rfl))
              try simp only [Act.put, List.getElem_toArray, List.getElem_cons_succ, List.getElem_cons_zero, List.setIfInBounds_toArray, List.set_cons_zero, List.set_cons_succ]
              refine wpAnyH_done (by kernel_rfl) ?_ _
              go_wp2
              go_roundw
              case rel => exact ⟨j + 1, _, by omega, rfl, by go_num, by rw [HY.out]; exact OwnN.bl O.out (by repeat' (first | exact Bl.refl _ | with_reducible assumption | with_reducible refine Bl.drew_ ?_ | with_reducible refine Bl.drewN_ ?_ _ | with_reducible refine Bl.alloc_ ?_ _ | with_reducible refine Bl.trans_ ?_ (by assumption) | with_reducible refine Bl.trans_ ?_ (And.left (by assumption)))), T.out.bl (by repeat' (first | exact Bl.refl _ | with_reducible assumption | with_reducible refine Bl.drew_ ?_ | with_reducible refine Bl.drewN_ ?_ _ | with_reducible refine Bl.alloc_ ?_ _ | with_reducible refine Bl.trans_ ?_ (by assumption) | with_reducible refine Bl.trans_ ?_ (And.left (by assumption)))), VO.out⟩
              case measure => simp [intOf]; omega
          · obtain rfl : j = k := by omega
            go_wp2
            go_ret
            refine ⟨_, rfl, ?_, (Bl.alloc_ (Bl.refl w) _).trans_ hG⟩
            rw [HV.out, Int.toNat_natCast]
            exact O.out.low (by omega)
      · have htd : decide (0 ≤ t ∧ t < N) = false := by simpa using ht
        have HT := Lib.hid htd
        have AB := Lib.hid (prunedL_no (L := L) (V := V) (askB_no3 (s := s) htd))
        clear hsd htd
        go_enter Try.func40, Try.ntmps40
        go_wp2_with fail
        refine (specReachOk_any N A n c L HN.out A2 kk c2 V HK.out _ hm hkm (K1.out.bl (by repeat' (first | exact Bl.refl _ | with_reducible assumption | with_reducible refine Bl.drew_ ?_ | with_reducible refine Bl.drewN_ ?_ _ | with_reducible refine Bl.alloc_ ?_ _ | with_reducible refine Bl.trans_ ?_ (by assumption) | with_reducible refine Bl.trans_ ?_ (And.left (by assumption))))) (K2.out.bl (by repeat' (first | exact Bl.refl _ | with_reducible assumption | with_reducible refine Bl.drew_ ?_ | with_reducible refine Bl.drewN_ ?_ _ | with_reducible refine Bl.alloc_ ?_ _ | with_reducible refine Bl.trans_ ?_ (by assumption) | with_reducible refine Bl.trans_ ?_ (And.left (by assumption)))))).mono ?_
        rintro e w1 ⟨rfl, hb1⟩
        rw [RB.out]
        obtain ⟨q0, q1⟩ := BX.out _ hb1
        go_wp2_with fail
        refine (l1Node_any N s _ _).mono ?_
        rintro e w2 ⟨rfl, hb2⟩
        rw [HNS.out, HS.out]
        have hb2 := hb1.trans_ hb2
        obtain ⟨q0, q1⟩ := BX.out _ hb2
        go_wp2_with fail
        refine (l1Node_any N t _ _).mono ?_
        rintro e w3 ⟨rfl, hb3⟩
        rw [HNT.out, HT.out]
        have hb3 := hb2.trans_ hb3
        go_wp2
        go_ret
        exact ⟨_, rfl, by rw [AB.out]; exact (O0.out _ hb3).low (by omega), BW.out _ hb3⟩
    · have hsd : decide (0 ≤ s ∧ s < N) = false := by simpa using hs
      have HS := Lib.hid hsd
      have AB := Lib.hid (prunedL_no (L := L) (V := V) (askB_no2 (t := t) hsd))
      clear hsd
      go_enter Try.func40, Try.ntmps40
      go_wp2_with fail
      refine (specReachOk_any N A n c L HN.out A2 kk c2 V HK.out _ hm hkm (K1.out.bl (by repeat' (first | exact Bl.refl _ | with_reducible assumption | with_reducible refine Bl.drew_ ?_ | with_reducible refine Bl.drewN_ ?_ _ | with_reducible refine Bl.alloc_ ?_ _ | with_reducible refine Bl.trans_ ?_ (by assumption) | with_reducible refine Bl.trans_ ?_ (And.left (by assumption))))) (K2.out.bl (by repeat' (first | exact Bl.refl _ | with_reducible assumption | with_reducible refine Bl.drew_ ?_ | with_reducible refine Bl.drewN_ ?_ _ | with_reducible refine Bl.alloc_ ?_ _ | with_reducible refine Bl.trans_ ?_ (by assumption) | with_reducible refine Bl.trans_ ?_ (And.left (by assumption)))))).mono ?_
      rintro e w1 ⟨rfl, hb1⟩
      rw [RB.out]
      obtain ⟨q0, q1⟩ := BX.out _ hb1
      go_wp2_with fail
      refine (l1Node_any N s _ _).mono ?_
      rintro e w2 ⟨rfl, hb2⟩
      rw [HNS.out, HS.out]
      have hb2 := hb1.trans_ hb2
      go_wp2
      go_ret
      exact ⟨_, rfl, by rw [AB.out]; exact (O0.out _ hb2).low (by omega), BW.out _ hb2⟩

end Go.Proofs.Ytmdmbobjdhjadaa

set_option linter.unusedSimpArgs false
set_option linter.unusedVariables false
namespace Go.Proofs.Ytmdmbobjdhjadaa
open Go.RowKit

/-- Does the arc lead from one of these nodes to another one? -/
def keepB (P : List Int) (a : Arc3) : Bool := decide (a.1 ∈ P) && decide (a.2.1 ∈ P)
def amongL (P : List Int) (L : List Arc3) : List Arc3 := L.filter (keepB P)
theorem amongL_ok {N : Int} {P : List Int} {L : List Arc3} (h : okB N L = true) : okB N (amongL P L) = true := by
  obtain ⟨h1, h2, h3, h4, h5⟩ := okB_elim h
  have hl : (amongL P L).length ≤ L.length := List.length_filter_le _ _
  exact okB_intro h1 h2 (by omega) (fun a ha => h4 a (List.mem_filter.1 ha).1) (h5.sublist (List.filter_sublist))
theorem mem_amongL {P : List Int} {L : List Arc3} {a : Arc3} : a ∈ amongL P L ↔ a ∈ L ∧ a.1 ∈ P ∧ a.2.1 ∈ P := by
  unfold amongL keepB
  rw [List.mem_filter, Bool.and_eq_true, decide_eq_true_eq, decide_eq_true_eq]
theorem mem_leftK {D E V : List Int} {k : Nat} {v : Int} : v ∈ leftK D E V k ↔ (0 ≤ v ∧ v < k) ∧ leftB D E V v = true := by
  unfold leftK
  rw [List.mem_filter, List.mem_map]
  constructor
  · rintro ⟨⟨j, hj, rfl⟩, h⟩
    rw [List.mem_range] at hj
    exact ⟨⟨Int.natCast_nonneg j, by show (j : Int) < (k : Int); omega⟩, h⟩
  · rintro ⟨⟨h0, h1⟩, h⟩
    exact ⟨⟨v.toNat, List.mem_range.2 (by omega), by show ((v.toNat : Nat) : Int) = v; omega⟩, h⟩

/-- A node on a shortest path is one of those that are left. -/
theorem on_left {N s t v : Int} {L : List Arc3} {V : List Int} (h : askB N L V s t = true) (hv : 0 ≤ v ∧ v < N) (ha : 0 ≤ dAt (distL N L s) v) (hb : 0 ≤ dAt (distL N (revL L) t) v) (hs : dAt (distL N L s) v + dAt (distL N (revL L) t) v = dAt (distL N L s) t) :
    v ∈ leftK (distL N L s) (distL N (revL L) t) V N.toNat := by
  obtain ⟨hr, hsN, htN⟩ := askB_elim h
  obtain ⟨ho, hVN⟩ := reachB_ok hr
  refine mem_leftK.2 ⟨⟨hv.1, by omega⟩, ?_⟩
  obtain ⟨q, rfl⟩ : ∃ q : Nat, N = q := ⟨N.toNat, by omega⟩
  obtain ⟨u, rfl⟩ : ∃ u : Nat, v = u := ⟨v.toNat, by omega⟩
  obtain ⟨s', rfl⟩ : ∃ s' : Nat, s = s' := ⟨s.toNat, by omega⟩
  obtain ⟨t', rfl⟩ : ∃ t' : Nat, t = t' := ⟨t.toNat, by omega⟩
  have hu : u < q := by omega
  have ht' := distL_of_turned (s := (u : Int)) (t := (t' : Int)) ho ⟨by omega, by omega⟩ htN
  have hm := (reach_max ho (v := u) (by omega)).2.2 (min (dAt (distL q L s') (u : Int)) (dAt (distL q L u) (t' : Int))) ⟨s', t', by simp; omega, by simp; omega, ha, by rw [← ht']; exact hb, by rw [← ht']; exact hs, rfl⟩
  have hn : notLess q L V (u + 1) = true := by
    cases e : notLess q L V (u + 1) with
    | true => rfl
    | false =>
      have := notLess_false e (V.length - (u + 1))
      rw [show u + 1 + (V.length - (u + 1)) = V.length from by omega] at this
      unfold reachB at hr
      rw [this, Bool.and_false] at hr
      cases hr
  rw [notLess_succ, Bool.and_eq_true, decide_eq_true_eq, reachL_ok ho] at hn
  simp only [Int.toNat_natCast] at hm
  unfold leftB
  rw [decide_eq_true_eq]
  refine ⟨ha, hb, ?_⟩
  rw [ht', Int.toNat_natCast]
  omega

theorem among_near {N s t : Int} {L : List Arc3} {V : List Int} (h : askB N L V s t = true) :
    ∀ (n : Nat) (v : Int), 0 ≤ v → v < N → (dAt (distL N L s) v).toNat = n → 0 ≤ dAt (distL N L s) v → 0 ≤ dAt (distL N (revL L) t) v → dAt (distL N L s) v + dAt (distL N (revL L) t) v = dAt (distL N L s) t →
      0 ≤ dAt (distL N (amongL (leftK (distL N L s) (distL N (revL L) t) V N.toNat) L) s) v ∧ dAt (distL N (amongL (leftK (distL N L s) (distL N (revL L) t) V N.toNat) L) s) v ≤ dAt (distL N L s) v := by
  obtain ⟨hr, hsN, htN⟩ := askB_elim h
  obtain ⟨ho, hVN⟩ := reachB_ok hr
  have hN24 := (okB_elim ho).2.1
  have hin := arcsIn_of_ok ho
  have hp := (okB_elim ho).2.2.2.2
  have hD := distL_is (s := s) hin hN24 hsN.1 hsN.2
  have hE := distL_is (s := t) (arcsIn_of_ok (revL_ok ho)) hN24 htN.1 htN.2
  have on := fun v hv ha hb hs => on_left (v := v) h hv ha hb hs
  obtain ⟨P, hP⟩ : ∃ P, P = leftK (distL N L s) (distL N (revL L) t) V N.toNat := ⟨_, rfl⟩
  rw [← hP] at on ⊢
  have hM := distL_is (s := s) (arcsIn_of_ok (amongL_ok (P := P) ho)) hN24 hsN.1 hsN.2
  intro n
  induction n using Nat.strongRecOn with
  | ind n ih =>
    intro v h0 h1 hn ha hb hs
    rcases hD.back v h0 h1 ha with rfl | ⟨a, haL, rfl, hu, he⟩
    · rw [hM.start, hD.start]; omega
    · obtain ⟨a0, a1, a2, a3, a4, a5⟩ := hin a haL
      have hrev : turnA a ∈ revL L := (revL_mem hp).2 (by show turnA (turnA a) ∈ L; exact haL)
      have e1 := hE.arc _ hrev (by show 0 ≤ dAt _ a.2.1; exact hb)
      have e2 : 0 ≤ dAt (distL N (revL L) t) a.1 ∧ dAt (distL N (revL L) t) a.1 ≤ dAt (distL N (revL L) t) a.2.1 + a.2.2 := e1
      have e3 := hD.tri ho hE _ a.1 a0 a1 rfl e2.1 hu
      have hs1 : dAt (distL N L s) a.1 + dAt (distL N (revL L) t) a.1 = dAt (distL N L s) t := by omega
      obtain ⟨x, y⟩ := ih (dAt (distL N L s) a.1).toNat (by omega) a.1 a0 a1 rfl hu e2.1 hs1
      have hin2 : a ∈ amongL P L := mem_amongL.2 ⟨haL, on a.1 ⟨a0, a1⟩ hu e2.1 hs1, on a.2.1 ⟨a2, a3⟩ ha hb hs⟩
      obtain ⟨z, z2⟩ := hM.arc a hin2 x
      omega

/-- Among the nodes that are left it is as far. -/
theorem among_dist {N s t : Int} {L : List Arc3} {V : List Int} (h : askB N L V s t = true) :
    dAt (distL N (amongL (leftK (distL N L s) (distL N (revL L) t) V N.toNat) L) s) t = dAt (distL N L s) t := by
  obtain ⟨hr, hsN, htN⟩ := askB_elim h
  obtain ⟨ho, hVN⟩ := reachB_ok hr
  have hN24 := (okB_elim ho).2.1
  have hin := arcsIn_of_ok ho
  have hD := distL_is (s := s) hin hN24 hsN.1 hsN.2
  have hE := distL_is (s := t) (arcsIn_of_ok (revL_ok ho)) hN24 htN.1 htN.2
  have near := fun p => among_near h _ t htN.1 htN.2 rfl p (by rw [hE.start]; omega) (by rw [hE.start]; omega)
  obtain ⟨P, hP⟩ : ∃ P, P = leftK (distL N L s) (distL N (revL L) t) V N.toNat := ⟨_, rfl⟩
  rw [← hP] at near ⊢
  have hM := distL_is (s := s) (arcsIn_of_ok (amongL_ok (P := P) ho)) hN24 hsN.1 hsN.2
  have low : ∀ (n : Nat) (v : Int), 0 ≤ v → v < N → (dAt (distL N (amongL P L) s) v).toNat = n → 0 ≤ dAt (distL N (amongL P L) s) v → 0 ≤ dAt (distL N L s) v ∧ dAt (distL N L s) v ≤ dAt (distL N (amongL P L) s) v := by
    intro n
    induction n using Nat.strongRecOn with
    | ind n ih =>
      intro v h0 h1 hn hp
      rcases hM.back v h0 h1 hp with rfl | ⟨a, ha, rfl, hu, he⟩
      · rw [hM.start, hD.start]; omega
      · have haL := (mem_amongL.1 ha).1
        obtain ⟨a0, a1, a2, a3, a4, a5⟩ := hin a haL
        obtain ⟨x, y⟩ := ih (dAt (distL N (amongL P L) s) a.1).toNat (by omega) a.1 a0 a1 rfl hu
        obtain ⟨z, z2⟩ := hD.arc a haL x
        omega
  have l1 := hD.low t
  have l2 := hM.low t
  by_cases p : 0 ≤ dAt (distL N L s) t
  · obtain ⟨x, y⟩ := near p
    obtain ⟨z, z2⟩ := low _ t htN.1 htN.2 rfl x
    omega
  · by_cases p2 : 0 ≤ dAt (distL N (amongL P L) s) t
    · obtain ⟨z, z2⟩ := low _ t htN.1 htN.2 rfl p2
      omega
    · omega
/-- How far it is, where reaches are asked as they should be. -/
def qreachI (N : Int) (L : List Arc3) (V : List Int) (s t : Int) : Int := if askB N L V s t = true then dAt (distL N L s) t else -1
theorem qreachI_no {N s t : Int} {L : List Arc3} {V : List Int} (h : askB N L V s t = false) : qreachI N L V s t = -1 := if_neg (by rw [h]; simp)

end Go.Proofs.Ytmdmbobjdhjadaa

set_option linter.unusedSimpArgs false
set_option linter.unusedVariables false
namespace Go.Proofs.Ytmdmbobjdhjadaa
open Go.RowKit Go.Shelf
attribute [local go_sem] Oper.semAt_some

/-- The nodes of these that reaches leave. -/
def selV (V : List Int) (pre : List Arc3) : List Int := (pre.filter fun x => decide (min x.2.1 x.2.2 ≤ V.getD x.1.toNat 0)).map (·.1)
theorem selV_yes {V : List Int} {pre : List Arc3} {x : Arc3} (h : min x.2.1 x.2.2 ≤ V.getD x.1.toNat 0) : selV V (pre ++ [x]) = selV V pre ++ [x.1] := by
  unfold selV
  rw [List.filter_append, List.map_append, List.filter_cons_of_pos (p := fun x : Arc3 => decide (min x.2.1 x.2.2 ≤ V.getD x.1.toNat 0)) (by simpa using h)]
  rfl
theorem selV_no {V : List Int} {pre : List Arc3} {x : Arc3} (h : ¬ (min x.2.1 x.2.2 ≤ V.getD x.1.toNat 0)) : selV V (pre ++ [x]) = selV V pre := by
  unfold selV
  rw [List.filter_append, List.map_append, List.filter_cons_of_neg (p := fun x : Arc3 => decide (min x.2.1 x.2.2 ≤ V.getD x.1.toNat 0)) (by simpa using h)]
  simp
theorem selV_all (D E V : List Int) : ∀ k : Nat, selV V (passK D E k) = leftK D E V k
  | 0 => rfl
  | k + 1 => by
    cases hb : bothB D E (k : Int) with
    | false =>
      rw [passK_no hb, selV_all D E V k, leftK_no]
      unfold bothB at hb
      unfold leftB
      rw [decide_eq_false_iff_not] at hb ⊢
      exact fun h => hb ⟨h.1, h.2.1⟩
    | true =>
      rw [passK_yes hb]
      unfold bothB at hb
      rw [decide_eq_true_eq] at hb
      by_cases h : min (dAt D (k : Int)) (dAt E (k : Int)) ≤ V.getD k 0
      · rw [selV_yes (by simpa using h), selV_all D E V k, leftK_yes]
        unfold leftB
        rw [decide_eq_true_eq]
        exact ⟨hb.1, hb.2, by simpa using h⟩
      · rw [selV_no (by simpa using h), selV_all D E V k, leftK_no]
        unfold leftB
        rw [decide_eq_false_iff_not]
        exact fun h' => h (by simpa using h'.2.2)
theorem passK_len_ (D E : List Int) (k : Nat) : (passK D E k).length ≤ k := by
  unfold passK
  rw [List.length_map]
  have := List.length_filter_le (bothB D E) ((List.range k).map Int.ofNat)
  simp at this
  exact this
theorem selV_len (V : List Int) (pre : List Arc3) : (selV V pre).length ≤ pre.length := by
  unfold selV
  rw [List.length_map]
  exact List.length_filter_le _ _

set_option maxRecDepth 100000 in
set_option maxHeartbeats 4000000 in
theorem leftBy_any (k : Nat) (s t : Int) (A : Option Addr) (n c : Nat) (L : List Arc3) (hn : n = L.length) (hc : n ≤ c) (ho : okB k L = true) (hs : 0 ≤ s ∧ s < k) (ht : 0 ≤ t ∧ t < k) (A2 : Option Addr) (kk c2 : Nat) (V : List Int) (hkk : kk = V.length) (hV : V.length = k) (w : World) (hm : n ≤ 1048576) (H1 : ArcsAt w w.heap.size A L) (H2 : IntsAt w w.heap.size A2 V) :
    Calls Try.prog 91 #[.agg #[.int .i64 k, .slice A n c], .slice A2 kk c2, .int .i64 s, .int .i64 t] w (NumsMade (leftK (distL k L s) (distL k (revL L) t) V k) w) := by
  obtain ⟨i0, hi, hz0, hz1, hz2⟩ := info_parts infoInt
  have I0 := Lib.hid hi
  have I1 := Lib.hid hz0
  have I2 := Lib.hid hz1
  have I3 := Lib.hid hz2
  have K1 := Lib.hid H1
  have HN := Lib.hid hn
  have HO := Lib.hid ho
  have HRO := Lib.hid (revL_ok ho)
  have HRL := Lib.hid (revL_len (okB_elim ho).2.2.2.2)
  have hN24 := (okB_elim ho).2.1
  have hk1 := (okB_elim ho).1
  have HV := Lib.hid hV
  have HKK := Lib.hid hkk
  obtain ⟨g2, o2, rfl, hg2, hc2⟩ := H2.cell (by omega)
  have CV := Lib.hid hc2
  clear H1 H2 hn hi hz0 hz1 hz2 hc2 hV hkk
  refine (callsIn_wide (n := 0)).1 ?_
  refine callsIn_of_wp_marks Try.func91 rfl trivial ?_ rfl
  simp only [Try.ntmps91, List.size_toArray, List.length_cons, List.length_nil, Nat.reduceAdd, Nat.reduceSub, Array.replicate_succ, Array.replicate_zero, List.push_toArray, List.append_toArray, List.nil_append, List.cons_append]
  gi_wp2_with fail
  obtain ⟨W, hW⟩ : ∃ W, W = (((w.alloc (.cells #[.int .i64 k, .slice A n c] 42)).alloc (.cells #[.slice (some ⟨g2, o2, none⟩) kk c2] 22)).alloc (.cells #[.slice none 0 0] 22)) := ⟨_, rfl⟩
  have HBW := Lib.hid (show Bl w W from by rw [hW]; exact ((Bl.alloc_ (Bl.refl w) _).alloc_ _).alloc_ _)
  have HSH := Lib.hid (show ∀ wx, Bl W wx → wx.cell? ⟨w.heap.size, 0, none⟩ = some (.int .i64 k) ∧ wx.cell? ⟨w.heap.size, 1, none⟩ = some (.slice A n c) from fun wx hb => by rw [hW] at hb; exact box2 ((Bl.alloc_ (Bl.alloc_ (Bl.refl _) _) _).trans_ hb))
  have HMX := Lib.hid (show ∀ wx, Bl W wx → wx.cell? ⟨w.heap.size + 1, 0, none⟩ = some (.slice (some ⟨g2, o2, none⟩) kk c2) ∧ wx.cell? ⟨w.heap.size + 2, 0, none⟩ = some (.slice none 0 0) ∧ wx.frozen? ⟨w.heap.size + 2, 0, none⟩ = false from fun wx hb => by
    obtain ⟨h1, h2⟩ := bcell hb
    have hs : W.heap.size = w.heap.size + 3 := by rw [hW]; simp
    rw [h1 _ _ (by omega), h1 _ _ (by omega), h2 _ _ (by omega), hW]
    exact ⟨by simp [go_sem], by simp [go_sem], by simp [go_sem]⟩)
  have hs0 : W.heap.size = w.heap.size + 3 := by rw [hW]; simp
  rw [← hW]
  clear hW ho
  refine wpIn_region_held (S := fun wx => wx.cell? ⟨w.heap.size, 0, none⟩ = some (.int .i64 k) ∧ wx.cell? ⟨w.heap.size, 1, none⟩ = some (.slice A n c)) (by kernel_rfl) ?_ (fun hHeld => ?_)
  · (exact HSH.out _ (by repeat' (first | exact Bl.refl _ | with_reducible assumption | with_reducible refine Bl.drew_ ?_ | with_reducible refine Bl.drewN_ ?_ _ | with_reducible refine Bl.alloc_ ?_ _ | with_reducible refine Bl.trans_ ?_ (by assumption) | with_reducible refine Bl.trans_ ?_ (And.left (by assumption)))))
  refine wpAnyH_take (i := 0) (v := ?_) rfl (by kernel_rfl) (by kernel_rfl) (by kernel_rfl) (fun _ _ _ h => h) (Or.inl ⟨by kernel_rfl, ?_⟩) (by assumption) ?_
  rotate_left
  · (intro wx hSw; (try dsimp only at hSw); go_simp; try (with_reducible rfl))
  try simp only [Act.put, List.getElem_toArray, List.getElem_cons_succ, List.getElem_cons_zero, List.setIfInBounds_toArray, List.set_cons_zero, List.set_cons_succ]
  refine wpAnyH_take (i := 1) (v := ?_) rfl (by kernel_rfl) (by kernel_rfl) (by kernel_rfl) (fun _ _ _ h => h) (Or.inl ⟨by kernel_rfl, ?_⟩) (by assumption) ?_
  rotate_left
  · (intro wx hSw; (try dsimp only at hSw); go_simp; try (with_reducible rfl))
  try simp only [Act.put, List.getElem_toArray, List.getElem_cons_succ, List.getElem_cons_zero, List.setIfInBounds_toArray, List.set_cons_zero, List.set_cons_succ]
  refine wpAnyH_take (i := 2) (v := ?_) rfl (by kernel_rfl) (by kernel_rfl) (by kernel_rfl) (fun _ _ _ h => h) (Or.inl ⟨by kernel_rfl, ?_⟩) (by assumption) ?_
  rotate_left
  · (intro wx hSw; (try dsimp only at hSw); go_simp; try (with_reducible rfl))
  try simp only [Act.put, List.getElem_toArray, List.getElem_cons_succ, List.getElem_cons_zero, List.setIfInBounds_toArray, List.set_cons_zero, List.set_cons_succ]
  refine wpAnyH_take (i := 3) (v := ?_) rfl (by kernel_rfl) (by kernel_rfl) (by kernel_rfl) (fun _ _ _ h => h) (Or.inl ⟨by kernel_rfl, ?_⟩) (by assumption) ?_
  rotate_left
  · (intro wx hSw; (try dsimp only at hSw); go_simp; try (with_reducible rfl))
  try simp only [Act.put, List.getElem_toArray, List.getElem_cons_succ, List.getElem_cons_zero, List.setIfInBounds_toArray, List.set_cons_zero, List.set_cons_succ]
  refine wpAnyH_take (i := 5) (v := ?_) rfl (by kernel_rfl) (by kernel_rfl) (by kernel_rfl) (fun _ _ _ h => h) (Or.inl ⟨by kernel_rfl, ?_⟩) (by assumption) ?_
  rotate_left
  · (intro wx hSw; (try dsimp only at hSw); go_simp; try (with_reducible rfl))
  try simp only [Act.put, List.getElem_toArray, List.getElem_cons_succ, List.getElem_cons_zero, List.setIfInBounds_toArray, List.set_cons_zero, List.set_cons_succ]
  refine wpAnyH_take (i := 7) (v := ?_) rfl (by kernel_rfl) (by kernel_rfl) (by kernel_rfl) (fun _ _ _ h => h) (Or.inl ⟨by kernel_rfl, ?_⟩) (by assumption) ?_
  rotate_left
  · (intro wx hSw; (try dsimp only at hSw); go_simp; try (with_reducible rfl))
  try simp only [Act.put, List.getElem_toArray, List.getElem_cons_succ, List.getElem_cons_zero, List.setIfInBounds_toArray, List.set_cons_zero, List.set_cons_succ]
  refine wpAnyH_ready (rs := [4]) (by kernel_rfl) (by simp) ?_
  refine AllReadyH.cons rfl (fun K hK => ?_) AllReadyH.nil
  go_simp
  (go_at_call 92; refine (distances_any k s A n c L HN.out hc HO.out hs.1 hs.2 _ (K1.out.bl (HBW.out.trans_ (by repeat' (first | exact Bl.refl _ | with_reducible assumption | with_reducible refine Bl.drew_ ?_ | with_reducible refine Bl.drewN_ ?_ _ | with_reducible refine Bl.alloc_ ?_ _ | with_reducible refine Bl.trans_ ?_ (by assumption) | with_reducible refine Bl.trans_ ?_ (And.left (by assumption))))))).mono ?_; rintro e w_1 ⟨E, rfl, hE, hEd, hb1⟩)
  try (go_wp2_with fail)
  refine hK.out _ _ ?_ (fun hHeld => ?_)
  · (exact HSH.out _ (by repeat' (first | exact Bl.refl _ | with_reducible assumption | with_reducible refine Bl.drew_ ?_ | with_reducible refine Bl.drewN_ ?_ _ | with_reducible refine Bl.alloc_ ?_ _ | with_reducible refine Bl.trans_ ?_ (by assumption) | with_reducible refine Bl.trans_ ?_ (And.left (by assumption)))))
  clear hK K
  try simp only [Act.put, List.getElem_toArray, List.getElem_cons_succ, List.getElem_cons_zero, List.setIfInBounds_toArray, List.set_cons_zero, List.set_cons_succ]
  refine wpAnyH_ready (rs := [6]) (by kernel_rfl) (by simp) ?_
  refine AllReadyH.cons rfl (fun K hK => ?_) AllReadyH.nil
  go_simp
  (go_at_call 52; refine (implReversed_any k A n c L HN.out _ hm (K1.out.bl (HBW.out.trans_ (by repeat' (first | exact Bl.refl _ | with_reducible assumption | with_reducible refine Bl.drew_ ?_ | with_reducible refine Bl.drewN_ ?_ _ | with_reducible refine Bl.alloc_ ?_ _ | with_reducible refine Bl.trans_ ?_ (by assumption) | with_reducible refine Bl.trans_ ?_ (And.left (by assumption))))))).mono ?_; rintro e w_2 ⟨v6, rfl, hv6, hb2⟩; rw [show revN (k : Int) L = (k : Int) from if_pos HO.out]; rw [show revG (k : Int) L = revL L from if_pos HO.out] at hv6; have hcap := OwnA.cap_ hv6; obtain ⟨A6, c6, rfl, ha6, -⟩ := hv6.shape; have V_2 := Lib.hid ha6; have HC6 := Lib.hid (hcap _ _ _ rfl); clear hv6 hcap ha6)
  try (go_wp2_with fail)
  refine hK.out _ _ ?_ (fun hHeld => ?_)
  · (exact HSH.out _ (by repeat' (first | exact Bl.refl _ | with_reducible assumption | with_reducible refine Bl.drew_ ?_ | with_reducible refine Bl.drewN_ ?_ _ | with_reducible refine Bl.alloc_ ?_ _ | with_reducible refine Bl.trans_ ?_ (by assumption) | with_reducible refine Bl.trans_ ?_ (And.left (by assumption)))))
  clear hK K
  try simp only [Act.put, List.getElem_toArray, List.getElem_cons_succ, List.getElem_cons_zero, List.setIfInBounds_toArray, List.set_cons_zero, List.set_cons_succ]
  refine wpAnyH_ready (rs := [8]) (by kernel_rfl) (by simp) ?_
  refine AllReadyH.cons rfl (fun K hK => ?_) AllReadyH.nil
  go_simp
  (go_at_call 92; refine (distances_any k t A6 (revL L).length c6 (revL L) rfl HC6.out HRO.out ht.1 ht.2 _ V_2.out).mono ?_; rintro e w_3 ⟨F, rfl, hF, hFd, hb3⟩)
  try (go_wp2_with fail)
  refine hK.out _ _ ?_ (fun hHeld => ?_)
  · (exact HSH.out _ (by repeat' (first | exact Bl.refl _ | with_reducible assumption | with_reducible refine Bl.drew_ ?_ | with_reducible refine Bl.drewN_ ?_ _ | with_reducible refine Bl.alloc_ ?_ _ | with_reducible refine Bl.trans_ ?_ (by assumption) | with_reducible refine Bl.trans_ ?_ (And.left (by assumption)))))
  clear hK K
  try simp only [Act.put, List.getElem_toArray, List.getElem_cons_succ, List.getElem_cons_zero, List.setIfInBounds_toArray, List.set_cons_zero, List.set_cons_succ]
  refine wpAnyH_ready (rs := [9]) (by kernel_rfl) (by simp) ?_
  refine AllReadyH.cons rfl (fun K hK => ?_) AllReadyH.nil
  go_simp
  (go_at_call 121; refine (passings_any k E F hE hF _).mono ?_; rintro e w_4 ⟨rfl, hw4⟩; have hb4 : Bl w_3 w_4 := (by rw [hw4]; exact ((Bl.alloc_ (Bl.refl _) _).alloc_ _).alloc_ _); have HW4 := Lib.hid hw4; clear hw4)
  try (go_wp2_with fail)
  refine hK.out _ _ ?_ (fun hHeld => ?_)
  · (exact HSH.out _ (by repeat' (first | exact Bl.refl _ | with_reducible assumption | with_reducible refine Bl.drew_ ?_ | with_reducible refine Bl.drewN_ ?_ _ | with_reducible refine Bl.alloc_ ?_ _ | with_reducible refine Bl.trans_ ?_ (by assumption) | with_reducible refine Bl.trans_ ?_ (And.left (by assumption)))))
  clear hK K
  try simp only [Act.put, List.getElem_toArray, List.getElem_cons_succ, List.getElem_cons_zero, List.setIfInBounds_toArray, List.set_cons_zero, List.set_cons_succ]
  refine wpAnyH_done (by kernel_rfl) ?_ _
  refine NoOut.normal ?_
  clear hHeld
  gi_wp2_with fail
  have B3 := Lib.hid (show Bl W w_3 from (by repeat' (first | exact Bl.refl _ | with_reducible assumption | with_reducible refine Bl.drew_ ?_ | with_reducible refine Bl.drewN_ ?_ _ | with_reducible refine Bl.alloc_ ?_ _ | with_reducible refine Bl.trans_ ?_ (by assumption) | with_reducible refine Bl.trans_ ?_ (And.left (by assumption)))))
  have B4 := Lib.hid (B3.out.trans_ hb4)
  have hin : PIn w_4 w_3.heap.size (w_3.heap.size + 1) (w_3.heap.size + 2) k E F := by
    rw [HW4.out]
    refine ⟨by simp [go_sem], ?_, ?_⟩
    · have h := (nums_box (w_3.alloc (.cells #[.int .i64 (k : Int)] 2)) 82 E hE).bl (Bl.alloc_ (Bl.refl _) (.cells (F.map (Value.int .i64)).toArray 82))
      rw [World.size_alloc] at h
      exact h
    · have h := nums_box ((w_3.alloc (.cells #[.int .i64 (k : Int)] 2)).alloc (.cells (E.map (Value.int .i64)).toArray 82)) 82 F hF
      rw [World.size_alloc, World.size_alloc] at h
      exact h
  have PIN := Lib.hid hin
  have hs4 : w_4.heap.size = w_3.heap.size + 3 := by rw [HW4.out]; simp
  have hs3 := B3.out.size
  have DE := Lib.hid (show E.take k = distL k L s from hEd)
  have DF := Lib.hid (show F.take k = distL k (revL L) t from hFd)
  have DTK := Lib.hid (show ∀ (X : List Int) (v : Int), X.length = 24 → 0 ≤ v → v < (k : Int) → dAt (X.take k) v = dAt X v from fun X v hX h0 h1 => by
    unfold dAt
    simp only [List.getD_eq_getElem?_getD]
    rw [List.getElem?_take, if_pos (by omega)])
  have EL := Lib.hid hE
  have FL := Lib.hid hF
  obtain ⟨m0, m1, m2⟩ := HMX.out _ B4.out
  have BW4 := Lib.hid (HBW.out.trans_ B4.out)
  obtain ⟨ob, hob⟩ : ∃ ob, ob = w.heap[g2]? := ⟨_, rfl⟩
  have HOB := Lib.hid hob
  have hg4 : w_4.heap[g2]? = ob := by have h : Below w.heap.size w w_4 := BW4.out; rw [hob]; exact h.block g2 hg2
  clear hob
  clear hb4 hb1 hb2 hb3 hE hF hEd hFd hin
  have hvb : w.heap.size + 1 + 1 = w.heap.size + 2 := rfl
  have hfin : PIn w_4 w_3.heap.size (w_3.heap.size + 1) (w_3.heap.size + 2) k E F := PIN.out
  refine wpIn_range (gf := 133) (lb := #[.pointer (some ⟨w_3.heap.size, 0, none⟩), .pointer (some ⟨w_3.heap.size + 1, 0, none⟩), .pointer (some ⟨w_3.heap.size + 2, 0, none⟩)]) ?e1 ?e2
    (pass_stops k w_3.heap.size (w_3.heap.size + 1) (w_3.heap.size + 2) E F (by omega) w_4 hfin) (Bl.refl _) (fun i hi => hfin.lt hi) ?e3
    (fun pre K W' => ∃ v, (∀ i, K i ↔ (i = w.heap.size + 2 ∨ i = w.heap.size + 1 ∨ v.ownBlock = some i ∨ i = g2)) ∧ (W'.cell? ⟨w.heap.size + 2, 0, none⟩ = some v ∧ W'.frozen? ⟨w.heap.size + 2, 0, none⟩ = false) ∧ W'.cell? ⟨w.heap.size + 1, 0, none⟩ = some (.slice (some ⟨g2, o2, none⟩) kk c2) ∧ OwnN W' (w.heap.size + 3) v (selV V pre) ∧ W'.heap[g2]? = ob ∧ w.heap.size + 3 ≤ W'.heap.size)
    (fun _ _ _ _ => False)
    (fun pre x a K W' => ∃ xb v, ∃ z0 z1 z2 z3 z4 z6 z7 z8 z11 z12 z13 z14 z15 z16 z17 z18 z19 z20 z21 z22 z23 z24 z25 z26 z27 z28 z29 z30 z31 z32 z33 z34 z35 : Value, (∀ i, K i ↔ (i = w.heap.size + 2 ∨ i = w.heap.size + 1 ∨ v.ownBlock = some i ∨ i = xb ∨ i = g2)) ∧ (W'.cell? ⟨w.heap.size + 2, 0, none⟩ = some v ∧ W'.frozen? ⟨w.heap.size + 2, 0, none⟩ = false) ∧ W'.cell? ⟨w.heap.size + 1, 0, none⟩ = some (.slice (some ⟨g2, o2, none⟩) kk c2) ∧ OwnN W' (w.heap.size + 3) v (selV V pre) ∧ (W'.heap[g2]? = ob ∧ w.heap.size + 3 ≤ W'.heap.size) ∧
      (xb ≠ w.heap.size + 2 ∧ xb ≠ w.heap.size + 1 ∧ v.ownBlock ≠ some xb ∧ xb ≠ g2 ∧ W'.cell? ⟨xb, 0, none⟩ = some (.int .i64 x.1) ∧ W'.cell? ⟨xb, 1, none⟩ = some (.int .i64 x.2.1) ∧ W'.cell? ⟨xb, 2, none⟩ = some (.int .i64 x.2.2)) ∧
      a = { tmps := #[z0, z1, z2, z3, z4, .pointer (some ⟨w.heap.size + 1, 0, none⟩), z6, z7, z8, .pointer (some ⟨w.heap.size + 1 + 1, 0, none⟩), .pointer (some ⟨xb, 0, none⟩), z11, z12, z13, z14, z15, z16, z17, z18, z19, z20, z21, z22, z23, z24, z25, z26, z27, z28, z29, z30, z31, z32, z33, z34, z35], defers := [] })
    (fun i => i = w.heap.size + 2 ∨ i = w.heap.size + 1 ∨ i = g2) ?hK0 ?hI (fun _ _ _ _ _ h _ => h) ?hM ?hlt ⟨.slice none 0 0, fun i => by simp [Value.ownBlock], ⟨m1, m2⟩, m0, OwnN.nil_ _ _, hg4, by omega⟩ ?assign ?body ?done (fun _ _ _ _ _ _ _ h _ _ _ => h.elim)
  case e1 => rfl
  case e2 => exact enters_of Try.func133 (by kernel_rfl) rfl
  case e3 => exact fun x => rfl
  case hK0 =>
    rintro i hi hp
    rcases hp with h | h | h <;> (rcases hi with h' | h' | h' <;> omega)
  case hI =>
    rintro pre K X Y ⟨v, hk, ⟨h1, h2⟩, h3, h4, h5, h6⟩ ht
    have l1 := World.block_lt_of_cell? _ _ h1
    have l3 := World.block_lt_of_cell? _ _ h3
    simp only at l1 l3
    obtain ⟨e1, e2⟩ := ht.cells l1 (fun h => h ((hk _).2 (.inl rfl))) 0
    exact ⟨v, hk, ⟨e1.trans h1, e2.trans h2⟩, (ht.cells l3 (fun h => h ((hk _).2 (.inr (.inl rfl)))) 0).1.trans h3, Owns.turn h4 ht (fun g hg h => h ((hk g).2 (.inr (.inr (.inl hg))))), (ht.block g2 (by omega) (fun h => h ((hk _).2 (.inr (.inr (.inr rfl)))))).trans h5, Nat.le_trans h6 ht.size⟩
  case hM =>
    rintro pre x a K X Y ⟨xb, v, z0, z1, z2, z3, z4, z6, z7, z8, z11, z12, z13, z14, z15, z16, z17, z18, z19, z20, z21, z22, z23, z24, z25, z26, z27, z28, z29, z30, z31, z32, z33, z34, z35, hk, ⟨h1, h2⟩, h3, h4, ⟨h5, h6⟩, ⟨n1, n2, n3, n4, c0, c1, c2⟩, he⟩ ht
    have l1 := World.block_lt_of_cell? _ _ h1
    have l3 := World.block_lt_of_cell? _ _ h3
    have lx := World.block_lt_of_cell? _ _ c0
    simp only at l1 l3 lx
    obtain ⟨e1, e2⟩ := ht.cells l1 (fun h => h ((hk _).2 (.inl rfl))) 0
    have hs := fun o => (ht.cells lx (fun h => h ((hk _).2 (.inr (.inr (.inr (.inl rfl)))))) o).1
    exact ⟨xb, v, z0, z1, z2, z3, z4, z6, z7, z8, z11, z12, z13, z14, z15, z16, z17, z18, z19, z20, z21, z22, z23, z24, z25, z26, z27, z28, z29, z30, z31, z32, z33, z34, z35, hk, ⟨e1.trans h1, e2.trans h2⟩, (ht.cells l3 (fun h => h ((hk _).2 (.inr (.inl rfl)))) 0).1.trans h3, Owns.turn h4 ht (fun g hg h => h ((hk g).2 (.inr (.inr (.inl hg))))), ⟨(ht.block g2 (by omega) (fun h => h ((hk _).2 (.inr (.inr (.inr (.inr rfl))))))).trans h5, Nat.le_trans h6 ht.size⟩, ⟨n1, n2, n3, n4, (hs 0).trans c0, (hs 1).trans c1, (hs 2).trans c2⟩, he⟩
  case hlt =>
    rintro pre K X ⟨v, hk, ⟨h1, h2⟩, h3, h4, h5, h6⟩ i hi
    rcases (hk i).1 hi with rfl | rfl | h | rfl
    · exact World.block_lt_of_cell? _ _ h1
    · exact World.block_lt_of_cell? _ _ h3
    · exact (Owns.lt h4 i h).2
    · omega
  case assign =>
    rintro l pre ⟨x, y, z⟩ K X R ⟨v, hk, ⟨h1, h2⟩, h3, h4, h5, h6⟩ hpre hR
    have HKX := Lib.hid hk
    have HC1 := Lib.hid h1
    have HC2 := Lib.hid h2
    have HC3 := Lib.hid h3
    have HC4 := Lib.hid h4
    have HC5 := Lib.hid h5
    have HR := Lib.hid hR
    have l1 := World.block_lt_of_cell? _ _ h1
    simp only at l1
    clear hk h1 h2 h3 h4 h5 hpre hR m0 m1 m2 hfin hg4
    dsimp only [encP]
    gi_wp2_with fail
    have BN : Bl X (X.alloc (.cells #[.int .i64 x, .int .i64 y, .int .i64 z] 106)) := (by repeat' (first | exact Bl.refl _ | with_reducible assumption | with_reducible refine Bl.drew_ ?_ | with_reducible refine Bl.drewN_ ?_ _ | with_reducible refine Bl.alloc_ ?_ _ | with_reducible refine Bl.trans_ ?_ (by assumption) | with_reducible refine Bl.trans_ ?_ (And.left (by assumption))))
    have hx := bcell BN
    refine HR.out _ (fun i => i = w.heap.size + 2 ∨ i = w.heap.size + 1 ∨ v.ownBlock = some i ∨ i = X.heap.size ∨ i = g2) _ ⟨Turn.of_bl BN, fun i hi => ?_⟩ ⟨X.heap.size, v, _, _, _, _, _, _, _, _, _, _, _, _, _, _, _, _, _, _, _, _, _, _, _, _, _, _, _, _, _, _, _, _, _, fun i => Iff.rfl, ⟨(hx.1 _ _ l1).trans HC1.out, (hx.2 _ _ l1).trans HC2.out⟩, (hx.1 _ _ (by omega)).trans HC3.out, OwnN.bl HC4.out BN, ⟨((show Below X.heap.size X _ from BN).block g2 (by omega)).trans HC5.out, Nat.le_trans h6 BN.size⟩,
      ⟨by omega, by omega, fun h => by have := (Owns.lt HC4.out _ h).2; omega, by omega, by simp [go_sem], by simp [go_sem], by simp [go_sem]⟩, rfl⟩
    rcases hi with h | h | h | h | h
    · exact .inl ((HKX.out i).2 (.inl h))
    · exact .inl ((HKX.out i).2 (.inr (.inl h)))
    · exact .inl ((HKX.out i).2 (.inr (.inr (.inl h))))
    · exact .inr (by omega)
    · exact .inl ((HKX.out i).2 (.inr (.inr (.inr h))))
  case body =>
    rintro l pre ⟨x, y, z⟩ a₁ K X ⟨xb, v, z0, z1, z2, z3, z4, z6, z7, z8, z11, z12, z13, z14, z15, z16, z17, z18, z19, z20, z21, z22, z23, z24, z25, z26, z27, z28, z29, z30, z31, z32, z33, z34, z35, hk, ⟨h1, h2⟩, h3, h4, ⟨h5, h6⟩, ⟨n1, n2, n3, n4, e0, e1, e2⟩, rfl⟩ ⟨Z, hZ⟩
    have hp := passK_ids E F k (x, y, z) (by rw [hZ]; simp)
    obtain ⟨⟨p0, p1⟩, -⟩ := hp
    simp only at p0 p1 e0 e1 e2
    obtain ⟨u, rfl⟩ : ∃ u : Nat, x = u := ⟨x.toNat, by omega⟩
    have huk : u < k := by omega
    have huV : u < V.length := by have := HV.out; omega
    have hu0 : (0 : Int) ≤ (u : Int) := by omega
    have hu1 : (u : Int) < (kk : Int) := by have := HV.out; have := HKK.out; omega
    have cr : X.cell? ⟨g2, o2 + u, none⟩ = some (.int .i64 V[u]) := (World.cell?_of_block (a := ⟨g2, o2 + u, none⟩) (h5.trans HOB.out)).trans (CV.out u huV)
    have gV : V.getD ((u : Int).toNat) 0 = V[u] := by simp [huV]
    have YES := Lib.hid (fun (h : min y z ≤ V[u]) => selV_yes (V := V) (pre := pre) (x := ((u : Int), y, z)) (by rw [gV]; exact h))
    have NO := Lib.hid (fun (h : ¬ min y z ≤ V[u]) => selV_no (V := V) (pre := pre) (x := ((u : Int), y, z)) (by rw [gV]; exact h))
    have l1 := World.block_lt_of_cell? _ _ h1
    have l3 := World.block_lt_of_cell? _ _ h3
    have lx := World.block_lt_of_cell? _ _ e0
    simp only at l1 l3 lx
    have HKX := Lib.hid hk
    have OW := Lib.hid h4
    have H5 := Lib.hid h5
    have C1 := Lib.hid h1
    have C2 := Lib.hid h2
    have C3 := Lib.hid h3
    have hlen : (selV V pre).length ≤ 24 := by
      have h1 := selV_len V pre
      have h2 := passK_len_ E F k
      have h3 := congrArg List.length hZ
      simp only [List.length_append, List.length_cons] at h3
      omega
    clear gV
    generalize V[u] = r at *
    have HSX := Lib.hid (show ∀ wx, Bl X wx → wx.cell? ⟨w.heap.size + 1, 0, none⟩ = some (.slice (some ⟨g2, o2, none⟩) kk c2) ∧ wx.cell? ⟨xb, 0, none⟩ = some (.int .i64 (u : Int)) ∧ wx.cell? ⟨xb, 1, none⟩ = some (.int .i64 y) ∧ wx.cell? ⟨xb, 2, none⟩ = some (.int .i64 z) ∧ wx.cell? ⟨g2, o2 + u, none⟩ = some (.int .i64 r) from fun wx hb => by
      have h := (bcell hb).1
      exact ⟨(h _ _ l3).trans h3, (h _ _ lx).trans e0, (h _ _ lx).trans e1, (h _ _ lx).trans e2, (h _ _ (by omega)).trans cr⟩)
    clear hk hZ m0 m1 m2 hfin hg4 h1 h2 h3 h4 h5 e0 e1 e2 cr
    gi_wp2_with fail
    refine wpIn_region_heldF (S := fun wx => wx.cell? ⟨w.heap.size + 1, 0, none⟩ = some (.slice (some ⟨g2, o2, none⟩) kk c2) ∧ wx.cell? ⟨xb, 0, none⟩ = some (.int .i64 (u : Int)) ∧ wx.cell? ⟨xb, 1, none⟩ = some (.int .i64 y) ∧ wx.cell? ⟨xb, 2, none⟩ = some (.int .i64 z) ∧ wx.cell? ⟨g2, o2 + u, none⟩ = some (.int .i64 r)) (by kernel_rfl) ?_ (fun hHeld => ?_)
    · (exact HSX.out _ (by repeat' (first | exact Bl.refl _ | with_reducible assumption | with_reducible refine Bl.drew_ ?_ | with_reducible refine Bl.drewN_ ?_ _ | with_reducible refine Bl.alloc_ ?_ _ | with_reducible refine Bl.trans_ ?_ (by assumption) | with_reducible refine Bl.trans_ ?_ (And.left (by assumption)))))
    refine wpAnyHF_take (i := 0) (v := ?_) (by kernel_rfl) rfl (by kernel_rfl) (by kernel_rfl) (by kernel_rfl) (fun _ _ _ h => h) (Or.inl ⟨by kernel_rfl, ?_⟩) (fun _ => rfl) (by assumption) ?_
    rotate_left
    · (intro wx hSw; (try dsimp only at hSw); go_simp; try (with_reducible rfl))
    try simp only [Act.put, List.getElem_toArray, List.getElem_cons_succ, List.getElem_cons_zero, List.setIfInBounds_toArray, List.set_cons_zero, List.set_cons_succ]
    refine wpAnyHF_take (i := 2) (v := ?_) (by kernel_rfl) rfl (by kernel_rfl) (by kernel_rfl) (by kernel_rfl) (fun _ _ _ h => h) (Or.inl ⟨by kernel_rfl, ?_⟩) (fun _ => rfl) (by assumption) ?_
    rotate_left
    · (intro wx hSw; (try dsimp only at hSw); go_simp; try (with_reducible rfl))
    try simp only [Act.put, List.getElem_toArray, List.getElem_cons_succ, List.getElem_cons_zero, List.setIfInBounds_toArray, List.set_cons_zero, List.set_cons_succ]
    refine wpAnyHF_take (i := 3) (v := ?_) (by kernel_rfl) rfl (by kernel_rfl) (by kernel_rfl) (by kernel_rfl) (fun _ _ _ h => h) (Or.inl ⟨by kernel_rfl, ?_⟩) (fun _ => rfl) (by assumption) ?_
    rotate_left
    · (intro wx hSw; (try dsimp only at hSw); go_simp; try (with_reducible rfl))
    try simp only [Act.put, List.getElem_toArray, List.getElem_cons_succ, List.getElem_cons_zero, List.setIfInBounds_toArray, List.set_cons_zero, List.set_cons_succ]
    refine wpAnyHF_take (i := 4) (v := ?_) (by kernel_rfl) rfl (by kernel_rfl) (by kernel_rfl) (by kernel_rfl) (fun _ _ _ h => h) (Or.inl ⟨by kernel_rfl, ?_⟩) (fun _ => rfl) (by assumption) ?_
    rotate_left
    · (intro wx hSw; (try dsimp only at hSw); go_simp; try (with_reducible rfl))
    try simp only [Act.put, List.getElem_toArray, List.getElem_cons_succ, List.getElem_cons_zero, List.setIfInBounds_toArray, List.set_cons_zero, List.set_cons_succ]
    refine wpAnyHF_take (i := 5) (v := ?_) (by kernel_rfl) rfl (by kernel_rfl) (by kernel_rfl) (by kernel_rfl) (fun _ _ _ h => h) (Or.inl ⟨by kernel_rfl, ?_⟩) (fun _ => rfl) (by assumption) ?_
    rotate_left
    · (intro wx hSw; (try dsimp only at hSw); go_simp; try (with_reducible rfl))
    try simp only [Act.put, List.getElem_toArray, List.getElem_cons_succ, List.getElem_cons_zero, List.setIfInBounds_toArray, List.set_cons_zero, List.set_cons_succ]
    refine wpAnyHF_take (i := 6) (v := ?_) (by kernel_rfl) rfl (by kernel_rfl) (by kernel_rfl) (by kernel_rfl) (fun _ _ _ h => h) (Or.inl ⟨by kernel_rfl, ?_⟩) (fun _ => rfl) (by assumption) ?_
    rotate_left
    · (intro wx hSw; (try dsimp only at hSw); go_simp; try (with_reducible rfl))
    try simp only [Act.put, List.getElem_toArray, List.getElem_cons_succ, List.getElem_cons_zero, List.setIfInBounds_toArray, List.set_cons_zero, List.set_cons_succ]
    refine wpAnyHF_ready (rs := [1]) (by kernel_rfl) (by simp) ?_
    refine AllReadyHF.cons rfl (fun K hK => ?_) AllReadyHF.nil
    go_simp
    (refine ⟨by first | trivial | exact fun _ _ => trivial, by first | rfl | (intro h; simp [Fence.wide] at h), CallsIn.inRound _ (CallsIn.mono (callsIn_wide.2 (lesser_any _ _ _ _)) ?_)⟩; rintro e w7 ⟨rfl, hb7⟩)
    try (gi_wp2_with fail)
    refine hK.out _ _ ?_ (fun hHeld => ?_)
    · (exact HSX.out _ (by repeat' (first | exact Bl.refl _ | with_reducible assumption | with_reducible refine Bl.drew_ ?_ | with_reducible refine Bl.drewN_ ?_ _ | with_reducible refine Bl.alloc_ ?_ _ | with_reducible refine Bl.trans_ ?_ (by assumption) | with_reducible refine Bl.trans_ ?_ (And.left (by assumption)))))
    clear hK K
    try simp only [Act.put, List.getElem_toArray, List.getElem_cons_succ, List.getElem_cons_zero, List.setIfInBounds_toArray, List.set_cons_zero, List.set_cons_succ]
    refine wpAnyHF_take (i := 7) (v := ?_) (by kernel_rfl) rfl (by kernel_rfl) (by kernel_rfl) (by kernel_rfl) (fun _ _ _ h => h) (Or.inl ⟨by kernel_rfl, ?_⟩) (fun _ => rfl) (by assumption) ?_
    rotate_left
    · (intro wx hSw; (try dsimp only at hSw); go_simp; try (with_reducible rfl))
    try simp only [Act.put, List.getElem_toArray, List.getElem_cons_succ, List.getElem_cons_zero, List.setIfInBounds_toArray, List.set_cons_zero, List.set_cons_succ]
    refine wpAnyHF_done (by kernel_rfl) ?_ _
    clear hHeld
    have B7 := Lib.hid (show Bl X w7 from (by repeat' (first | exact Bl.refl _ | with_reducible assumption | with_reducible refine Bl.drew_ ?_ | with_reducible refine Bl.drewN_ ?_ _ | with_reducible refine Bl.alloc_ ?_ _ | with_reducible refine Bl.trans_ ?_ (by assumption) | with_reducible refine Bl.trans_ ?_ (And.left (by assumption)))))
    have hx7 := bcell B7.out
    have O7 := Lib.hid (OW.out.bl B7.out)
    have h1 := (hx7.1 _ _ l1).trans C1.out
    have h2 := (hx7.2 _ _ l1).trans C2.out
    have h3 := (hx7.1 _ _ l3).trans C3.out
    have e0 := (HSX.out w7 B7.out).2.1
    have s7 := B7.out.size
    have H7 := Lib.hid (((show Below X.heap.size X _ from B7.out).block g2 (by omega)).trans H5.out)
    clear hx7 hb7
    by_cases hle : min y z ≤ r
    · have b1 : decide (min y z ≤ r) = true := by simpa using hle
      have SY := Lib.hid (YES.out hle)
      clear YES NO
      gi_wp2_with (refine wpListIn_append_any _ rfl (.tmp 30) (.tmp 33) 22 rfl (w.heap.size + 3) 2 i0 _ 1 8 Try.underlying22 I0.out I1.out I2.out I3.out rfl (by decide) v (selV V pre).length (csI (selV V pre)) rfl (World.ownsRow.alloc O7.out _) (w7.heap.size + 1) (some ⟨w7.heap.size, 0, none⟩) 1 1 [.int .i64 (u : Int)] rfl ?c0 (by simp [Value.oneCell']) ?c3 ?c4 ?c5 ?_)
      case c0 =>
        refine ⟨rfl, fun _ => ⟨_, rfl, by show w7.heap.size < w7.heap.size + 1; omega, fun j u hj => ?_⟩⟩
        match j, hj with
        | 0, hj => simp at hj; subst hj; simp [Addr.add, go_sem]
        | (j + 1), hj => simp at hj
      case c3 => unfold maxLen; omega
      case c4 => omega
      case c5 => first | omega | (simp; omega)
      intro v' w8 hown' hgrow hwh
      have O8 := Lib.hid (OwnN.snoc (V := selV V pre) (x := (u : Int)) (n := (selV V pre).length) rfl (by simpa using hown'))
      rw [← show selV V (pre ++ [((u : Int), y, z)]) = selV V pre ++ [(u : Int)] from SY.out] at O8
      have hvb : v.ownBlock ≠ some (w.heap.size + 2) := fun h => by have := (Owns.lt OW.out _ h).1; omega
      have hmb : v.ownBlock ≠ some (w.heap.size + 1) := fun h => by have := (Owns.lt OW.out _ h).1; omega
      have hgb : v.ownBlock ≠ some g2 := fun h => by have := (Owns.lt OW.out _ h).1; omega
      have hb7 := hgrow.block (w.heap.size + 2) (by simp; omega) (fun h => hvb h.symm)
      have BA : Bl w7 (w7.alloc (.cells #[.int .i64 (u : Int)] 2)) := Bl.alloc_ (Bl.refl _) _
      have hc7 := (bcell BA)
      have r1 : w8.cell? ⟨w.heap.size + 2, 0, none⟩ = some v := (World.cell?_of_block (a := ⟨w.heap.size + 2, 0, none⟩) hb7).trans ((hc7.1 _ _ (by omega)).trans h1)
      have r2 : w8.frozen? ⟨w.heap.size + 2, 0, none⟩ = false := (World.frozen?_of_block (a := ⟨w.heap.size + 2, 0, none⟩) hb7).trans ((hc7.2 _ _ (by omega)).trans h2)
      have r3 := (World.cell?_of_block (a := ⟨w.heap.size + 1, 0, none⟩) (hgrow.block (w.heap.size + 1) (by simp; omega) (fun h => hmb h.symm))).trans ((hc7.1 _ _ (by omega)).trans h3)
      have r5 := Lib.hid ((hgrow.block g2 (by simp; omega) (fun h => hgb h.symm)).trans (((show Below w7.heap.size w7 _ from BA).block g2 (by omega)).trans H7.out))
      have hv'b : ∀ g, v'.ownBlock = some g → g ≠ w.heap.size + 2 := fun g hg e => by have := (Owns.lt O8.out g hg).1; omega
      have GR := Lib.hid hgrow
      have WH := Lib.hid hwh
      have s8 := hgrow.size
      obtain ⟨A9, c9, hv9, -⟩ := OwnN.shape O8.out
      obtain ⟨z9, hz9⟩ : ∃ z9, z9 = (selV V (pre ++ [((u : Int), y, z)])).length := ⟨_, rfl⟩
      rw [← hz9] at hv9
      subst hv9
      clear hown' hgrow hwh hb7 hc7 hz9 BA
      simp at s8
      gi_wp2_with fail
      refine ⟨fun i => i = w.heap.size + 2 ∨ i = w.heap.size + 1 ∨ (Value.slice A9 z9 c9).ownBlock = some i ∨ i = g2, ⟨?_, fun i hi => ?_⟩, .slice A9 z9 c9, fun i => Iff.rfl, ⟨?_, ?_⟩, ?_, ?_, ?_, ?_⟩
      · refine Turn.set (p := ⟨w.heap.size + 2, 0, none⟩) ((Turn.of_bl (S := K) (show Bl X (w7.alloc (.cells #[.int .i64 (u : Int)] 2)) from B7.out.alloc_ _)).trans (Turn.of_grown (S := fun i => v.ownBlock = some i) GR.out (fun i e => e)) (fun i _ e => (HKX.out i).2 (.inr (.inr (.inl e))))) (.inl ((HKX.out _).2 (.inl rfl))) _
      · rcases hi with h | h | h | h
        · exact .inl ((HKX.out i).2 (.inl h))
        · exact .inl ((HKX.out i).2 (.inr (.inl h)))
        · rcases WH.out with e | e
          · exact .inl ((HKX.out i).2 (.inr (.inr (.inl (by rw [← e]; exact h)))))
          · rw [e] at h
            injection h with h
            first
              | exact .inr (by omega)
              | (simp at h; exact .inr (by omega))
        · exact .inl ((HKX.out i).2 (.inr (.inr (.inr (.inr h)))))
      · exact World.cell?_setCell_same' _ _ _ (by rw [r1]; rfl)
      · rw [World.frozen?_setCell]; exact r2
      · rw [World.cell?_setCell_other _ _ _ _ (by intro e; injection e with e; omega)]; exact r3
      · exact Owns.setOther O8.out (fun g hg => hv'b g hg) _
      · exact (Below.heap_setCell w8 ⟨w.heap.size + 2, 0, none⟩ _ g2 (by show g2 ≠ w.heap.size + 2; omega)).trans r5.out
      · simp; omega
    · have b1 : decide (min y z ≤ r) = false := by simpa using hle
      have SN := Lib.hid (NO.out (by omega))
      clear YES NO
      gi_wp2_with fail
      exact ⟨fun i => i = w.heap.size + 2 ∨ i = w.heap.size + 1 ∨ v.ownBlock = some i ∨ i = g2, ⟨Turn.of_bl B7.out, fun i hi => .inl ((HKX.out i).2 (by rcases hi with h | h | h | h; exact .inl h; exact .inr (.inl h); exact .inr (.inr (.inl h)); exact .inr (.inr (.inr (.inr h)))))⟩, v, fun i => Iff.rfl, ⟨h1, h2⟩, h3, by rw [SN.out]; exact O7.out, H7.out, by omega⟩
  case done =>
    rintro D xs K X hD rfl ⟨v, hk, ⟨h1, h2⟩, h3, h4, h5, h6⟩ hT hKD hdef
    have HKX := Lib.hid hk
    have OW := Lib.hid h4
    have HT := Lib.hid (show Turn (fun i => i = w.heap.size + 2 ∨ i = w.heap.size + 1) w_4 X from ⟨hT.os, hT.tape, hT.output, hT.size, fun i hi hn => by
      by_cases e : i = g2
      · subst e
        exact h5.trans hg4.symm
      · exact hT.block i hi (fun h => by rcases h with h | h | h; exact hn (.inl h); exact hn (.inr h); exact e h)⟩)
    have HD := Lib.hid hdef
    have HKD := Lib.hid hKD
    clear hk h2 h3 h4 h5 hT hKD hdef m0 m1 m2 hfin hg4
    gi_wp2_with fail
    refine ⟨by simp, .inl ⟨_, _, rfl, run_takeDeferred HD.out, ?_⟩⟩
    refine ⟨v, by simp [results, Try.results91, go_sem], v, rfl, ?_, ?_⟩
    · have hput := Owns.turn OW.out (turn_put (fun i => i = D) X (.deferred none) rfl) (fun g hg e => HKD.out (by rw [← e]; exact (HKX.out g).2 (.inr (.inr (.inl hg)))))
      have hsel : selV V (passK E F k) = leftK (distL k L s) (distL k (revL L) t) V k := by
        rw [selV_all]
        refine leftK_same (fun v h0 h1 => ?_) (fun v h0 h1 => ?_)
        · rw [← DTK.out E v EL.out h0 h1, DE.out]
        · rw [← DTK.out F v FL.out h0 h1, DF.out]
      rw [← hsel]
      exact Owns.low hput (by omega)
    · exact Turn.to_bl (Turn.to_bl (HBW.out.trans_ B4.out) HT.out (fun i hi => by rcases hi with h | h <;> omega)) (turn_put (fun i => i = D) X (.deferred none) rfl) (fun i hi => by rw [hi]; omega)

end Go.Proofs.Ytmdmbobjdhjadaa

set_option linter.unusedSimpArgs false
set_option linter.unusedVariables false
namespace Go.Proofs.Ytmdmbobjdhjadaa
open Go.RowKit

theorem askB_has {N s t : Int} {L : List Arc3} {V : List Int} (h : has2 N L s t = false) : askB N L V s t = false := by
  cases e : askB N L V s t with
  | false => rfl
  | true =>
    obtain ⟨h1, h2, h3⟩ := askB_elim e
    have := (reachB_ok h1).1
    unfold has2 at h
    rw [this, Bool.true_and, decide_eq_false_iff_not] at h
    exact absurd ⟨h2, h3⟩ h
theorem askB_of_has {N s t : Int} {L : List Arc3} {V : List Int} (h : has2 N L s t = true) : askB N L V s t = reachB N L V := by
  obtain ⟨h1, h2, h3⟩ := has2_of h
  unfold askB
  rw [show decide (0 ≤ s ∧ s < N) = true from by simpa using h2, show decide (0 ≤ t ∧ t < N) = true from by simpa using h3]
  simp

set_option maxRecDepth 100000 in
set_option maxHeartbeats 1000000 in
theorem reachAsked_any (N s t : Int) (A : Option Addr) (n c : Nat) (L : List Arc3) (hn : n = L.length) (hc : n ≤ c) (A2 : Option Addr) (k c2 : Nat) (V : List Int) (hk : k = V.length) (w : World) (hm : n ≤ 1048576) (hkm : k ≤ 1048576) (H1 : ArcsAt w w.heap.size A L) (H2 : IntsAt w w.heap.size A2 V) :
    Calls Try.prog 90 #[.agg #[.int .i64 N, .slice A n c], .slice A2 k c2, .int .i64 s, .int .i64 t] w fun e w' => e = .returned (.bool (askB N L V s t)) ∧ Bl w w' := by
  have K1 := Lib.hid H1
  have K2 := Lib.hid H2
  have HN := Lib.hid hn
  have HK := Lib.hid hk
  clear H1 H2 hn hk
  cases hh : has2 N L s t with
  | false =>
    have HH := Lib.hid hh
    have HA := Lib.hid (askB_has (V := V) hh)
    clear hh
    go_enter Try.func90, Try.ntmps90
    go_wp2_with fail
    refine (hasNodes_2 N s t A n c L HN.out (w.heap.size + 1) 2 _ (by omega) (K1.out.bl (by repeat' (first | exact Bl.refl _ | with_reducible assumption | with_reducible refine Bl.drew_ ?_ | with_reducible refine Bl.drewN_ ?_ _ | with_reducible refine Bl.alloc_ ?_ _ | with_reducible refine Bl.trans_ ?_ (by assumption) | with_reducible refine Bl.trans_ ?_ (And.left (by assumption))))) (by simp) (by simp [go_sem]) (by simp [go_sem])).mono ?_
    rintro e w1 ⟨rfl, hb1⟩
    rw [HH.out]
    go_wp2
    go_ret
    exact ⟨ret_boolw HA.out.symm, (by repeat' (first | exact Bl.refl _ | with_reducible assumption | with_reducible refine Bl.drew_ ?_ | with_reducible refine Bl.drewN_ ?_ _ | with_reducible refine Bl.alloc_ ?_ _ | with_reducible refine Bl.trans_ ?_ (by assumption) | with_reducible refine Bl.trans_ ?_ (And.left (by assumption))))⟩
  | true =>
    have HH := Lib.hid hh
    have HA := Lib.hid (askB_of_has (V := V) hh)
    clear hh
    go_enter Try.func90, Try.ntmps90
    go_wp2_with fail
    refine (hasNodes_2 N s t A n c L HN.out (w.heap.size + 1) 2 _ (by omega) (K1.out.bl (by repeat' (first | exact Bl.refl _ | with_reducible assumption | with_reducible refine Bl.drew_ ?_ | with_reducible refine Bl.drewN_ ?_ _ | with_reducible refine Bl.alloc_ ?_ _ | with_reducible refine Bl.trans_ ?_ (by assumption) | with_reducible refine Bl.trans_ ?_ (And.left (by assumption))))) (by simp) (by simp [go_sem]) (by simp [go_sem])).mono ?_
    rintro e w1 ⟨rfl, hb1⟩
    rw [HH.out]
    obtain ⟨q0, q1⟩ := box2 ((Bl.alloc_ (Bl.refl _) _).trans_ hb1)
    go_wp2_with fail
    refine (implReachOk_any N A n c L HN.out A2 k c2 V HK.out hc _ hm hkm (K1.out.bl (by repeat' (first | exact Bl.refl _ | with_reducible assumption | with_reducible refine Bl.drew_ ?_ | with_reducible refine Bl.drewN_ ?_ _ | with_reducible refine Bl.alloc_ ?_ _ | with_reducible refine Bl.trans_ ?_ (by assumption) | with_reducible refine Bl.trans_ ?_ (And.left (by assumption))))) (K2.out.bl (by repeat' (first | exact Bl.refl _ | with_reducible assumption | with_reducible refine Bl.drew_ ?_ | with_reducible refine Bl.drewN_ ?_ _ | with_reducible refine Bl.alloc_ ?_ _ | with_reducible refine Bl.trans_ ?_ (by assumption) | with_reducible refine Bl.trans_ ?_ (And.left (by assumption)))))).mono ?_
    rintro e w2 ⟨rfl, hb2⟩
    go_wp2
    go_ret
    exact ⟨ret_boolw HA.out.symm, (by repeat' (first | exact Bl.refl _ | with_reducible assumption | with_reducible refine Bl.drew_ ?_ | with_reducible refine Bl.drewN_ ?_ _ | with_reducible refine Bl.alloc_ ?_ _ | with_reducible refine Bl.trans_ ?_ (by assumption) | with_reducible refine Bl.trans_ ?_ (And.left (by assumption))))⟩

set_option maxRecDepth 100000 in
set_option maxHeartbeats 1000000 in
theorem implPruned_any (N s t : Int) (A : Option Addr) (n c : Nat) (L : List Arc3) (hn : n = L.length) (A2 : Option Addr) (k c2 : Nat) (V : List Int) (hk : k = V.length) (hc : n ≤ c) (w : World) (hm : n ≤ 1048576) (hkm : k ≤ 1048576) (H1 : ArcsAt w w.heap.size A L) (H2 : IntsAt w w.heap.size A2 V) :
    Calls Try.prog 41 #[.agg #[.int .i64 N, .slice A n c], .slice A2 k c2, .int .i64 s, .int .i64 t] w (NumsMade (prunedL N L V s t) w) := by
  have K1 := Lib.hid H1
  have K2 := Lib.hid H2
  have HN := Lib.hid hn
  have HK := Lib.hid hk
  clear H1 H2 hn hk
  cases hh : askB N L V s t with
  | false =>
    have HH := Lib.hid hh
    have HA := Lib.hid (prunedL_no hh)
    clear hh
    go_enter Try.func41, Try.ntmps41
    go_wp2_with fail
    refine (reachAsked_any N s t A n c L HN.out hc A2 k c2 V HK.out _ hm hkm (K1.out.bl (by repeat' (first | exact Bl.refl _ | with_reducible assumption | with_reducible refine Bl.drew_ ?_ | with_reducible refine Bl.drewN_ ?_ _ | with_reducible refine Bl.alloc_ ?_ _ | with_reducible refine Bl.trans_ ?_ (by assumption) | with_reducible refine Bl.trans_ ?_ (And.left (by assumption))))) (K2.out.bl (by repeat' (first | exact Bl.refl _ | with_reducible assumption | with_reducible refine Bl.drew_ ?_ | with_reducible refine Bl.drewN_ ?_ _ | with_reducible refine Bl.alloc_ ?_ _ | with_reducible refine Bl.trans_ ?_ (by assumption) | with_reducible refine Bl.trans_ ?_ (And.left (by assumption)))))).mono ?_
    rintro e w1 ⟨rfl, hb1⟩
    rw [HH.out]
    go_wp2
    go_ret
    exact ⟨_, rfl, by rw [HA.out]; exact OwnN.nil_ _ _, (by repeat' (first | exact Bl.refl _ | with_reducible assumption | with_reducible refine Bl.drew_ ?_ | with_reducible refine Bl.drewN_ ?_ _ | with_reducible refine Bl.alloc_ ?_ _ | with_reducible refine Bl.trans_ ?_ (by assumption) | with_reducible refine Bl.trans_ ?_ (And.left (by assumption))))⟩
  | true =>
    have HH := Lib.hid hh
    have HA := Lib.hid (show prunedL N L V s t = leftK (distL N L s) (distL N (revL L) t) V N.toNat from if_pos hh)
    obtain ⟨h1, hs, ht⟩ := askB_elim hh
    obtain ⟨ho, hVN⟩ := reachB_ok h1
    obtain ⟨q, rfl⟩ : ∃ q : Nat, N = q := ⟨N.toNat, by omega⟩
    have HO := Lib.hid ho
    have HV := Lib.hid (show V.length = q from by omega)
    clear hh h1 ho hVN
    go_enter Try.func41, Try.ntmps41
    go_wp2_with fail
    refine (reachAsked_any q s t A n c L HN.out hc A2 k c2 V HK.out _ hm hkm (K1.out.bl (by repeat' (first | exact Bl.refl _ | with_reducible assumption | with_reducible refine Bl.drew_ ?_ | with_reducible refine Bl.drewN_ ?_ _ | with_reducible refine Bl.alloc_ ?_ _ | with_reducible refine Bl.trans_ ?_ (by assumption) | with_reducible refine Bl.trans_ ?_ (And.left (by assumption))))) (K2.out.bl (by repeat' (first | exact Bl.refl _ | with_reducible assumption | with_reducible refine Bl.drew_ ?_ | with_reducible refine Bl.drewN_ ?_ _ | with_reducible refine Bl.alloc_ ?_ _ | with_reducible refine Bl.trans_ ?_ (by assumption) | with_reducible refine Bl.trans_ ?_ (And.left (by assumption)))))).mono ?_
    rintro e w1 ⟨rfl, hb1⟩
    rw [HH.out]
    obtain ⟨q0, q1⟩ := box2 hb1
    have s1 := hb1.size
    go_wp2_with fail
    refine (leftBy_any q s t A n c L HN.out hc HO.out hs ht A2 k c2 V HK.out HV.out _ hm (K1.out.bl (by repeat' (first | exact Bl.refl _ | with_reducible assumption | with_reducible refine Bl.drew_ ?_ | with_reducible refine Bl.drewN_ ?_ _ | with_reducible refine Bl.alloc_ ?_ _ | with_reducible refine Bl.trans_ ?_ (by assumption) | with_reducible refine Bl.trans_ ?_ (And.left (by assumption))))) (K2.out.bl (by repeat' (first | exact Bl.refl _ | with_reducible assumption | with_reducible refine Bl.drew_ ?_ | with_reducible refine Bl.drewN_ ?_ _ | with_reducible refine Bl.alloc_ ?_ _ | with_reducible refine Bl.trans_ ?_ (by assumption) | with_reducible refine Bl.trans_ ?_ (And.left (by assumption)))))).mono ?_
    rintro e w2 ⟨v, rfl, hv, hb2⟩
    have HVV := Lib.hid hv
    clear hv
    go_wp2
    go_ret
    refine ⟨v, rfl, ?_, (by repeat' (first | exact Bl.refl _ | with_reducible assumption | with_reducible refine Bl.drew_ ?_ | with_reducible refine Bl.drewN_ ?_ _ | with_reducible refine Bl.alloc_ ?_ _ | with_reducible refine Bl.trans_ ?_ (by assumption) | with_reducible refine Bl.trans_ ?_ (And.left (by assumption))))⟩
    rw [HA.out, Int.toNat_natCast]
    refine OwnN.low HVV.out ?_
    simp at s1 ⊢
    omega

end Go.Proofs.Ytmdmbobjdhjadaa

set_option linter.unusedSimpArgs false
set_option linter.unusedVariables false
namespace Go.Proofs.Ytmdmbobjdhjadaa
open Go.RowKit

set_option maxRecDepth 100000 in
set_option maxHeartbeats 1000000 in
theorem indexI_any (A : Option Addr) (n c : Nat) (V : List Int) (hn : n = V.length) (x : Int) (w : World) (hm : n ≤ 1048576) (H1 : IntsAt w w.heap.size A V) :
    Calls Try.prog 134 #[.slice A n c, .int .i64 x] w fun e w' => ∃ r : Int, e = .returned (.int .i64 r) ∧ (0 ≤ r ↔ x ∈ V) ∧ Bl w w' := by
  have K1 := Lib.hid H1
  have HN := Lib.hid hn
  clear H1 hn
  go_enter Try.func134, Try.ntmps134
  go_wp2_with fail
  go_loopw [8] (fun i wr => ∃ k : Nat, k ≤ n ∧ i = .int .i64 k ∧ Bl w wr ∧ x ∉ V.take k) (fun i _ => n - (intOf i).toNat)
  case atStart => exact ⟨0, by omega, rfl, Bl.refl _, by simp⟩
  case round =>
    obtain ⟨k, hk, rfl, hbl, hno⟩ := hrel
    have NO := Lib.hid hno
    clear hno
    by_cases hlt : k < n
    · have hkl : k < V.length := by have := HN.out; omega
      obtain ⟨g1, o1, rfl, hg1, hc1⟩ := K1.out.cell (by omega)
      have p1 := ((bcell hbl).1 _ _ hg1).trans (hc1 k hkl)
      have MEM := Lib.hid (List.getElem_mem hkl)
      have TK := Lib.hid (List.take_succ_eq_append_getElem hkl)
      have i0 : (0 : Int) ≤ (k : Int) := by omega
      have i1 : (k : Int) < (n : Int) := by omega
      clear hc1
      generalize V[k] = y at *
      by_cases hxy : x = y
      · subst hxy
        go_wp2
        go_ret
        exact ⟨_, rfl, ⟨fun _ => MEM.out, fun _ => by omega⟩, hbl⟩
      · have hb : (x == y) = false := by simpa using hxy
        have NX := Lib.hid (show x ∉ V.take (k + 1) from by
          rw [TK.out, List.mem_append]
          rintro (h | h)
          · exact NO.out h
          · exact hxy (by simpa using h))
        go_wp2
        go_roundw
        case rel => exact ⟨k + 1, by omega, by go_num, hbl, NX.out⟩
        case measure => simp [intOf]; omega
    · have NX := Lib.hid (show x ∉ V from by
        have := NO.out
        rwa [List.take_of_length_le (by have := HN.out; omega)] at this)
      go_wp2
      go_ret
      exact ⟨-1, rfl, ⟨fun h => by omega, fun h => absurd h NX.out⟩, hbl⟩

set_option maxRecDepth 100000 in
set_option maxHeartbeats 1000000 in
theorem contains_any (A : Option Addr) (n c : Nat) (V : List Int) (hn : n = V.length) (x : Int) (w : World) (hm : n ≤ 1048576) (H1 : IntsAt w w.heap.size A V) :
    Calls Try.prog 123 #[.slice A n c, .int .i64 x] w fun e w' => e = .returned (.bool (decide (x ∈ V))) ∧ Bl w w' := by
  have K1 := Lib.hid H1
  have HN := Lib.hid hn
  have HM := Lib.hid hm
  clear H1 hn hm
  go_enter Try.func123, Try.ntmps123
  go_wp2_with fail
  refine (indexI_any A n c V HN.out x _ HM.out K1.out).mono ?_
  rintro e w1 ⟨r, rfl, hr, hb⟩
  have HB := Lib.hid hb
  have HR := Lib.hid hr
  clear hr hb
  by_cases h0 : 0 ≤ r
  · have hd : decide (0 ≤ r) = true := by simpa using h0
    have HX := Lib.hid (decide_eq_true (HR.out.1 h0))
    go_wp2
    go_ret
    exact ⟨ret_boolw HX.out.symm, HB.out⟩
  · have hd : decide (0 ≤ r) = false := by simpa using h0
    have HX := Lib.hid (decide_eq_false (fun h => h0 (HR.out.2 h)))
    go_wp2
    go_ret
    exact ⟨ret_boolw HX.out.symm, HB.out⟩

/-- The first k arcs that lead from one of these nodes to another one. -/
def amongK (P : List Int) (L : List Arc3) (k : Nat) : List Arc3 := (L.take k).filter (keepB P)
theorem amongK_yes {P : List Int} {L : List Arc3} {k : Nat} (h : k < L.length) (hk : keepB P L[k] = true) : amongK P L (k + 1) = amongK P L k ++ [L[k]] := by
  unfold amongK
  rw [List.take_succ_eq_append_getElem h, List.filter_append, List.filter_cons_of_pos hk]
  rfl
theorem amongK_no {P : List Int} {L : List Arc3} {k : Nat} (h : k < L.length) (hk : keepB P L[k] = false) : amongK P L (k + 1) = amongK P L k := by
  unfold amongK
  rw [List.take_succ_eq_append_getElem h, List.filter_append, List.filter_cons_of_neg (by rw [hk]; simp)]
  simp
theorem amongK_all (P : List Int) (L : List Arc3) : amongK P L L.length = amongL P L := by
  unfold amongK amongL
  rw [List.take_length]
theorem amongK_len (P : List Int) (L : List Arc3) (k : Nat) : (amongK P L k).length ≤ k := by
  unfold amongK
  exact Nat.le_trans (List.length_filter_le _ _) (List.length_take_le _ _)

set_option maxRecDepth 100000 in
set_option maxHeartbeats 4000000 in
theorem among_any (N : Int) (A : Option Addr) (n c : Nat) (L : List Arc3) (hn : n = L.length) (A2 : Option Addr) (kk c2 : Nat) (P : List Int) (hk : kk = P.length) (w : World) (hm : n ≤ 1048576) (hkm : kk ≤ 1048576) (H1 : ArcsAt w w.heap.size A L) (H2 : IntsAt w w.heap.size A2 P) :
    Calls Try.prog 93 #[.agg #[.int .i64 N, .slice A n c], .slice A2 kk c2] w (GraphMade1 N (amongL P L) w) := by
  obtain ⟨i0, hi, hz0, hz1, hz2⟩ := info_parts infoArc
  have I0 := Lib.hid hi
  have I1 := Lib.hid hz0
  have I2 := Lib.hid hz1
  have I3 := Lib.hid hz2
  have K1 := Lib.hid H1
  have K2 := Lib.hid H2
  have HN := Lib.hid hn
  have HK := Lib.hid hk
  clear H1 H2 hn hk hi hz0 hz1 hz2
  go_enter Try.func93, Try.ntmps93
  have T0 := Lib.hid (show TS w (.cells #[.int .i64 N, .slice A n c] 42) (w.heap.size + 1) (w.heap.size + 1 + 1) N (.slice none 0 0) [] (((w.alloc (.cells #[.int .i64 N, .slice A n c] 42)).alloc (.cells #[.int .i64 0, .slice none 0 0] 42)).alloc (.cells #[.int .i64 N, .slice none 0 0] 42)) from by
    refine ⟨?_, ?_, OwnA.nil_ _ _, ?_, by omega, by omega⟩
    · have := Two.new ((w.alloc (.cells #[.int .i64 N, .slice A n c] 42)).alloc (.cells #[.int .i64 0, .slice none 0 0] 42)) (.int .i64 N) (.slice none 0 0)
      simpa only [World.size_alloc] using this
    · have := (Two.new (w.alloc (.cells #[.int .i64 N, .slice A n c] 42)) (.int .i64 0) (.slice none 0 0)).bl (Bl.alloc_ (Bl.refl _) (.cells #[.int .i64 N, .slice none 0 0] 42))
      simpa only [World.size_alloc] using this
    · exact ((Bl.refl _).alloc_ _).alloc_ _)
  obtain ⟨y0, y1⟩ := box2 T0.out.bl
  go_wp2_with fail
  clear y0 y1
  go_loopw [14] (fun i wr => ∃ (k : Nat) (q : Value), k ≤ n ∧ i = .int .i64 k ∧ TS w (.cells #[.int .i64 N, .slice A n c] 42) (w.heap.size + 1) (w.heap.size + 1 + 1) N q (amongK P L k) wr) (fun i _ => n - (intOf i).toNat)
  case atStart => exact ⟨0, _, by omega, rfl, T0.out⟩
  case round =>
    obtain ⟨k, q, hk, rfl, hT⟩ := hrel
    obtain ⟨AQ, cq, rfl, hAQ, -⟩ := hT.own.shape
    have T := Lib.hid hT
    have hbw : Bl w wr := (Bl.alloc_ (Bl.refl w) _).trans_ hT.bl
    have HB := Lib.hid hbw
    have hlt' := World.rowIs.lt hT.box
    clear hT hAQ T0
    by_cases hlt : k < n
    · have hkl : k < L.length := by have := HN.out; omega
      obtain ⟨g1, o1, rfl, hg1, hc1⟩ := K1.out (by omega)
      obtain ⟨p1, p2, p3⟩ := hc1 k hkl
      clear hc1
      rw [← (bcell hbw).1 _ _ hg1] at p1 p2 p3
      have YES := Lib.hid (fun h => amongK_yes (P := P) hkl h)
      have NO := Lib.hid (fun h => amongK_no (P := P) hkl h)
      have KB := Lib.hid (show keepB P L[k] = (decide (L[k].1 ∈ P) && decide (L[k].2.1 ∈ P)) from rfl)
      have hlen := amongK_len P L k
      obtain ⟨a, ha⟩ : ∃ a, a = L[k] := ⟨_, rfl⟩
      rw [← ha] at p1 p2 p3 YES NO KB
      obtain ⟨x, y, z⟩ := a
      simp only at p1 p2 p3 KB
      clear ha hbw
      obtain ⟨l, hl⟩ : ∃ l, l = (amongK P L k).length := ⟨_, rfl⟩
      rw [← hl] at hlen T
      have HL := Lib.hid hl
      clear hl
      have u1 : (0 : Int) ≤ (k : Int) := by omega
      have u2 : (k : Int) < (n : Int) := by omega
      have BA := Lib.hid (show Bl wr (wr.alloc (.cells #[.int .i64 x, .int .i64 y, .int .i64 z] 130)) from (by repeat' (first | exact Bl.refl _ | with_reducible assumption | with_reducible refine Bl.drew_ ?_ | with_reducible refine Bl.drewN_ ?_ _ | with_reducible refine Bl.alloc_ ?_ _ | with_reducible refine Bl.trans_ ?_ (by assumption) | with_reducible refine Bl.trans_ ?_ (And.left (by assumption)))))
      go_wp2_with fail
      refine (contains_any A2 kk c2 P HK.out x _ hkm (K2.out.bl (HB.out.trans_ BA.out))).mono ?_
      rintro e w5 ⟨rfl, hb5⟩
      have h5 := (bcell hb5).1
      have r0 : w5.cell? ⟨wr.heap.size, 0, none⟩ = some (.int .i64 x) := (h5 _ _ (by simp)).trans (by simp [go_sem])
      have r1 : w5.cell? ⟨wr.heap.size, 1, none⟩ = some (.int .i64 y) := (h5 _ _ (by simp)).trans (by simp [go_sem])
      have r2 : w5.cell? ⟨wr.heap.size, 2, none⟩ = some (.int .i64 z) := (h5 _ _ (by simp)).trans (by simp [go_sem])
      have s5 : wr.heap.size < w5.heap.size := by have := hb5.size; simp at this; omega
      have B5 := Lib.hid (BA.out.trans_ hb5)
      clear h5 hb5 p1 p2 p3
      by_cases m1 : x ∈ P
      · rw [show decide (x ∈ P) = true from decide_eq_true m1] at KB ⊢
        go_wp2_with fail
        refine (contains_any A2 kk c2 P HK.out y _ hkm (K2.out.bl (HB.out.trans_ B5.out))).mono ?_
        rintro e w6 ⟨rfl, hb6⟩
        have h6 := (bcell hb6).1
        have r0 : w6.cell? ⟨wr.heap.size, 0, none⟩ = some (.int .i64 x) := (h6 _ _ s5).trans r0
        have r1 : w6.cell? ⟨wr.heap.size, 1, none⟩ = some (.int .i64 y) := (h6 _ _ s5).trans r1
        have r2 : w6.cell? ⟨wr.heap.size, 2, none⟩ = some (.int .i64 z) := (h6 _ _ s5).trans r2
        have B6 := Lib.hid (B5.out.trans_ hb6)
        clear h6 hb6
        have T6 := Lib.hid (T.out.bl_ B6.out)
        by_cases m2 : y ∈ P
        · rw [show decide (y ∈ P) = true from decide_eq_true m2] at KB ⊢
          have HY := Lib.hid (YES.out KB.out)
          clear YES NO
          obtain ⟨c0, c1, f0, f1⟩ := T6.out.box.facts
          have T2 := Lib.hid (T6.out.bl_ (show Bl w6 (w6.alloc (.cells #[.int .i64 x, .int .i64 y, .int .i64 z] 130)) from (by repeat' (first | exact Bl.refl _ | with_reducible assumption | with_reducible refine Bl.drew_ ?_ | with_reducible refine Bl.drewN_ ?_ _ | with_reducible refine Bl.alloc_ ?_ _ | with_reducible refine Bl.trans_ ?_ (by assumption) | with_reducible refine Bl.trans_ ?_ (And.left (by assumption))))))
          have s6 := T6.out.bl.size
          simp only [World.size_alloc] at s6
          go_wp2_with (at_builtin; refine wpList_append_own _ rfl (.tmp 29) (.tmp 31) _ rfl ((w.heap.size + 1 + 1) + 1) 130 i0 _ 3 24 Try.underlying40 I0.out I1.out I2.out I3.out rfl (by decide) _ l (cs3 (amongK P L k)) rfl ?c0 ⟨w6.heap.size, 0, none⟩ 1 1 [.int .i64 x, .int .i64 y, .int .i64 z] rfl rfl (new3 _ _ _ _ _) (one3 _ _ _) ?c3 ?c4 ?c5 ?_)
          case c0 => have := T2.out.own; rw [HL.out] at this ⊢; exact this
          case c3 => unfold maxLen; omega
          case c4 => omega
          case c5 => have := World.rowIs.lt T6.out.box; simp; omega
          intro v2 w2 hown2 hg2 _
          have O2 := Lib.hid (show OwnA w2 ((w.heap.size + 1 + 1) + 1) v2 (amongK P L (k + 1)) from by
            rw [HY.out]
            exact own_snoc (a := (x, y, z)) (by rw [← HL.out]; exact hown2))
          have G2 := Lib.hid hg2
          clear hown2 hg2
          have U := Lib.hid (T2.out.app G2.out O2.out)
          obtain ⟨b0, -, -⟩ := T2.out.grown_ G2.out O2.out
          obtain ⟨A3, c3, rfl, -, -⟩ := O2.out.shape
          obtain ⟨d0, d1, k0, k1⟩ := b0.facts
          clear b0 c0 c1 f0 f1
          go_wp2
          go_roundw
          case rel => exact ⟨k + 1, _, by omega, by go_num, U.out⟩
          case measure => simp [intOf]; omega
        · rw [show decide (y ∈ P) = false from decide_eq_false m2] at KB ⊢
          have HY := Lib.hid (NO.out KB.out)
          clear YES NO
          go_wp2
          go_roundw
          case rel => exact ⟨k + 1, _, by omega, by go_num, by rw [HY.out]; exact T6.out⟩
          case measure => simp [intOf]; omega
      · rw [show decide (x ∈ P) = false from decide_eq_false m1] at KB ⊢
        have HY := Lib.hid (NO.out KB.out)
        have T5 := Lib.hid (T.out.bl_ B5.out)
        clear YES NO
        go_wp2
        go_roundw
        case rel => exact ⟨k + 1, _, by omega, by go_num, by rw [HY.out]; exact T5.out⟩
        case measure => simp [intOf]; omega
    · obtain rfl : k = n := by omega
      have TA := Lib.hid (show amongK P L k = amongL P L from by rw [HN.out]; exact amongK_all P L)
      obtain ⟨c0, c1, f0, f1⟩ := T.out.box.facts
      obtain ⟨r0, r1, fr0, fr1⟩ := T.out.res.facts
      go_wp2
      refine bodyPost_ret (v := .agg #[.int .i64 N, .slice AQ (amongK P L k).length cq]) (by simp [results, Try.results93, go_sem, r0, r1, fr0, fr1]) rfl ?_
      have := T.out.fin (.int .i64 N) (.slice AQ (amongK P L k).length cq)
      exact ⟨_, rfl, by rw [← TA.out]; exact this.1, this.2⟩

set_option maxRecDepth 100000 in
set_option maxHeartbeats 1000000 in
theorem implQueryReach_any (N s t : Int) (A : Option Addr) (n c : Nat) (L : List Arc3) (hn : n = L.length) (A2 : Option Addr) (k c2 : Nat) (V : List Int) (hk : k = V.length) (hc : n ≤ c) (w : World) (hm : n ≤ 1048576) (hkm : k ≤ 1048576) (H1 : ArcsAt w w.heap.size A L) (H2 : IntsAt w w.heap.size A2 V) :
    Calls Try.prog 43 #[.agg #[.int .i64 N, .slice A n c], .slice A2 k c2, .int .i64 s, .int .i64 t] w fun e w' => e = .returned (.int .i64 (qreachI N L V s t)) ∧ Bl w w' := by
  have K1 := Lib.hid H1
  have K2 := Lib.hid H2
  have HN := Lib.hid hn
  have HK := Lib.hid hk
  clear H1 H2 hn hk
  cases hh : askB N L V s t with
  | false =>
    have HH := Lib.hid hh
    have HA := Lib.hid (qreachI_no hh)
    clear hh
    go_enter Try.func43, Try.ntmps43
    go_wp2_with fail
    refine (reachAsked_any N s t A n c L HN.out hc A2 k c2 V HK.out _ hm hkm (K1.out.bl (by repeat' (first | exact Bl.refl _ | with_reducible assumption | with_reducible refine Bl.drew_ ?_ | with_reducible refine Bl.drewN_ ?_ _ | with_reducible refine Bl.alloc_ ?_ _ | with_reducible refine Bl.trans_ ?_ (by assumption) | with_reducible refine Bl.trans_ ?_ (And.left (by assumption))))) (K2.out.bl (by repeat' (first | exact Bl.refl _ | with_reducible assumption | with_reducible refine Bl.drew_ ?_ | with_reducible refine Bl.drewN_ ?_ _ | with_reducible refine Bl.alloc_ ?_ _ | with_reducible refine Bl.trans_ ?_ (by assumption) | with_reducible refine Bl.trans_ ?_ (And.left (by assumption)))))).mono ?_
    rintro e w1 ⟨rfl, hb1⟩
    rw [HH.out]
    go_wp2
    go_ret
    exact ⟨ret_int HA.out.symm, (by repeat' (first | exact Bl.refl _ | with_reducible assumption | with_reducible refine Bl.drew_ ?_ | with_reducible refine Bl.drewN_ ?_ _ | with_reducible refine Bl.alloc_ ?_ _ | with_reducible refine Bl.trans_ ?_ (by assumption) | with_reducible refine Bl.trans_ ?_ (And.left (by assumption))))⟩
  | true =>
    have HH := Lib.hid hh
    obtain ⟨h1, hs, ht⟩ := askB_elim hh
    obtain ⟨ho, hVN⟩ := reachB_ok h1
    have hN24 := (okB_elim ho).2.1
    have hn150 := (okB_elim ho).2.2.1
    have HA := Lib.hid (show qreachI N L V s t = dAt (distL N (amongL (leftK (distL N L s) (distL N (revL L) t) V N.toNat) L) s) t from by
      unfold qreachI
      rw [if_pos hh, among_dist hh])
    obtain ⟨q, rfl⟩ : ∃ q : Nat, N = q := ⟨N.toNat, by omega⟩
    obtain ⟨u, rfl⟩ : ∃ u : Nat, t = u := ⟨t.toNat, by omega⟩
    have HO := Lib.hid ho
    have HV := Lib.hid (show V.length = q from by omega)
    have HOA := Lib.hid (amongL_ok (P := leftK (distL q L s) (distL q (revL L) u) V q) ho)
    have hPl := leftK_len (distL q L s) (distL q (revL L) u) V q
    rw [Int.toNat_natCast] at HA
    generalize hPP : leftK (distL q L s) (distL q (revL L) u) V q = P at *
    have PP := Lib.hid hPP
    clear hh h1 ho hVN hPP
    go_enter Try.func43, Try.ntmps43
    go_wp2_with fail
    refine (reachAsked_any q s u A n c L HN.out hc A2 k c2 V HK.out _ hm hkm (K1.out.bl (by repeat' (first | exact Bl.refl _ | with_reducible assumption | with_reducible refine Bl.drew_ ?_ | with_reducible refine Bl.drewN_ ?_ _ | with_reducible refine Bl.alloc_ ?_ _ | with_reducible refine Bl.trans_ ?_ (by assumption) | with_reducible refine Bl.trans_ ?_ (And.left (by assumption))))) (K2.out.bl (by repeat' (first | exact Bl.refl _ | with_reducible assumption | with_reducible refine Bl.drew_ ?_ | with_reducible refine Bl.drewN_ ?_ _ | with_reducible refine Bl.alloc_ ?_ _ | with_reducible refine Bl.trans_ ?_ (by assumption) | with_reducible refine Bl.trans_ ?_ (And.left (by assumption)))))).mono ?_
    rintro e w1 ⟨rfl, hb1⟩
    rw [HH.out]
    have hbw := Lib.hid (show Bl w w1 from (by repeat' (first | exact Bl.refl _ | with_reducible assumption | with_reducible refine Bl.drew_ ?_ | with_reducible refine Bl.drewN_ ?_ _ | with_reducible refine Bl.alloc_ ?_ _ | with_reducible refine Bl.trans_ ?_ (by assumption) | with_reducible refine Bl.trans_ ?_ (And.left (by assumption)))))
    have HSH := Lib.hid (show ∀ wx, Bl w1 wx → Bl w1 wx ∧ wx.cell? ⟨w.heap.size, 0, none⟩ = some (.int .i64 (q : Int)) ∧ wx.cell? ⟨w.heap.size, 1, none⟩ = some (.slice A n c) from fun wx hb => ⟨hb, (box2 (hb1.trans_ hb)).1, (box2 (hb1.trans_ hb)).2⟩)
    clear hb1
    go_wp2_with fail
    refine wp_region_held_drew (S := fun wx => Bl w1 wx ∧ wx.cell? ⟨w.heap.size, 0, none⟩ = some (.int .i64 (q : Int)) ∧ wx.cell? ⟨w.heap.size, 1, none⟩ = some (.slice A n c)) (by kernel_rfl) ?_ (fun hHeld => ?_)
    · (exact HSH.out _ (by repeat' (first | exact Bl.refl _ | with_reducible assumption | with_reducible refine Bl.drew_ ?_ | with_reducible refine Bl.drewN_ ?_ _ | with_reducible refine Bl.alloc_ ?_ _ | with_reducible refine Bl.trans_ ?_ (by assumption) | with_reducible refine Bl.trans_ ?_ (And.left (by assumption)))))
    refine wpAnyH_take (i := 0) (v := ?_) rfl (by kernel_rfl) (by kernel_rfl) (by kernel_rfl) (fun _ _ _ h => h) (Or.inl ⟨by kernel_rfl, ?_⟩) (by assumption) ?_
    rotate_left
    · (intro wx hSw; (try dsimp only at hSw); go_simp; try (with_reducible rfl))
    try simp only [Act.put, List.getElem_toArray, List.getElem_cons_succ, List.getElem_cons_zero, List.setIfInBounds_toArray, List.set_cons_zero, List.set_cons_succ]
    refine wpAnyH_take (i := 1) (v := ?_) rfl (by kernel_rfl) (by kernel_rfl) (by kernel_rfl) (fun _ _ _ h => h) (Or.inl ⟨by kernel_rfl, ?_⟩) (by assumption) ?_
    rotate_left
    · (intro wx hSw; (try dsimp only at hSw); go_simp; try (with_reducible rfl))
    try simp only [Act.put, List.getElem_toArray, List.getElem_cons_succ, List.getElem_cons_zero, List.setIfInBounds_toArray, List.set_cons_zero, List.set_cons_succ]
    refine wpAnyH_take (i := 2) (v := ?_) rfl (by kernel_rfl) (by kernel_rfl) (by kernel_rfl) (fun _ _ _ h => h) (Or.inl ⟨by kernel_rfl, ?_⟩) (by assumption) ?_
    rotate_left
    · (intro wx hSw; (try dsimp only at hSw); go_simp; try (with_reducible rfl))
    try simp only [Act.put, List.getElem_toArray, List.getElem_cons_succ, List.getElem_cons_zero, List.setIfInBounds_toArray, List.set_cons_zero, List.set_cons_succ]
    refine wpAnyH_take (i := 3) (v := ?_) rfl (by kernel_rfl) (by kernel_rfl) (by kernel_rfl) (fun _ _ _ h => h) (Or.inl ⟨by kernel_rfl, ?_⟩) (by assumption) ?_
    rotate_left
    · (intro wx hSw; (try dsimp only at hSw); go_simp; try (with_reducible rfl))
    try simp only [Act.put, List.getElem_toArray, List.getElem_cons_succ, List.getElem_cons_zero, List.setIfInBounds_toArray, List.set_cons_zero, List.set_cons_succ]
    refine wpAnyH_take (i := 4) (v := ?_) rfl (by kernel_rfl) (by kernel_rfl) (by kernel_rfl) (fun _ _ _ h => h) (Or.inl ⟨by kernel_rfl, ?_⟩) (by assumption) ?_
    rotate_left
    · (intro wx hSw; (try dsimp only at hSw); go_simp; try (with_reducible rfl))
    try simp only [Act.put, List.getElem_toArray, List.getElem_cons_succ, List.getElem_cons_zero, List.setIfInBounds_toArray, List.set_cons_zero, List.set_cons_succ]
    refine wpAnyH_take (i := 7) (v := ?_) rfl (by kernel_rfl) (by kernel_rfl) (by kernel_rfl) (fun _ _ _ h => h) (Or.inl ⟨by kernel_rfl, ?_⟩) (by assumption) ?_
    rotate_left
    · (intro wx hSw; (try dsimp only at hSw); go_simp; try (with_reducible rfl))
    try simp only [Act.put, List.getElem_toArray, List.getElem_cons_succ, List.getElem_cons_zero, List.setIfInBounds_toArray, List.set_cons_zero, List.set_cons_succ]
    refine wpAnyH_take (i := 9) (v := ?_) rfl (by kernel_rfl) (by kernel_rfl) (by kernel_rfl) (fun _ _ _ h => h) (Or.inl ⟨by kernel_rfl, ?_⟩) (by assumption) ?_
    rotate_left
    · (intro wx hSw; (try dsimp only at hSw); go_simp; try (with_reducible rfl))
    try simp only [Act.put, List.getElem_toArray, List.getElem_cons_succ, List.getElem_cons_zero, List.setIfInBounds_toArray, List.set_cons_zero, List.set_cons_succ]
    refine wpAnyH_ready (rs := [5]) (by kernel_rfl) (by simp) ?_
    refine AllReadyH.cons rfl (fun K hK => ?_) AllReadyH.nil
    go_simp
    (go_at_call 91; refine (leftBy_any q s u A n c L HN.out hc HO.out hs ht A2 k c2 V HK.out HV.out _ hm (K1.out.bl (hbw.out.trans_ (by repeat' (first | exact Bl.refl _ | with_reducible assumption | with_reducible refine Bl.drew_ ?_ | with_reducible refine Bl.drewN_ ?_ _ | with_reducible refine Bl.alloc_ ?_ _ | with_reducible refine Bl.trans_ ?_ (by assumption) | with_reducible refine Bl.trans_ ?_ (And.left (by assumption)))))) (K2.out.bl (hbw.out.trans_ (by repeat' (first | exact Bl.refl _ | with_reducible assumption | with_reducible refine Bl.drew_ ?_ | with_reducible refine Bl.drewN_ ?_ _ | with_reducible refine Bl.alloc_ ?_ _ | with_reducible refine Bl.trans_ ?_ (by assumption) | with_reducible refine Bl.trans_ ?_ (And.left (by assumption))))))).mono ?_; rintro e w4 ⟨v4, rfl, hv4, hb4⟩; rw [PP.out] at hv4; obtain ⟨A4, c4, rfl, -, hi4, -, -⟩ := OwnN.shape hv4; have I4 := Lib.hid hi4; clear hv4 hi4)
    try (go_wp2_with fail)
    refine hK.out _ _ ?_ (fun hHeld => ?_)
    · (exact HSH.out _ (by repeat' (first | exact Bl.refl _ | with_reducible assumption | with_reducible refine Bl.drew_ ?_ | with_reducible refine Bl.drewN_ ?_ _ | with_reducible refine Bl.alloc_ ?_ _ | with_reducible refine Bl.trans_ ?_ (by assumption) | with_reducible refine Bl.trans_ ?_ (And.left (by assumption)))))
    clear hK K
    try simp only [Act.put, List.getElem_toArray, List.getElem_cons_succ, List.getElem_cons_zero, List.setIfInBounds_toArray, List.set_cons_zero, List.set_cons_succ]
    refine wpAnyH_ready (rs := [6]) (by kernel_rfl) (by simp) ?_
    refine AllReadyH.cons rfl (fun K hK => ?_) AllReadyH.nil
    go_simp
    (go_at_call 93; refine (among_any q A n c L HN.out A4 P.length c4 P rfl _ hm (by omega) (K1.out.bl (hbw.out.trans_ (by repeat' (first | exact Bl.refl _ | with_reducible assumption | with_reducible refine Bl.drew_ ?_ | with_reducible refine Bl.drewN_ ?_ _ | with_reducible refine Bl.alloc_ ?_ _ | with_reducible refine Bl.trans_ ?_ (by assumption) | with_reducible refine Bl.trans_ ?_ (And.left (by assumption)))))) (I4.out.bl (by repeat' (first | exact Bl.refl _ | with_reducible assumption | with_reducible refine Bl.drew_ ?_ | with_reducible refine Bl.drewN_ ?_ _ | with_reducible refine Bl.alloc_ ?_ _ | with_reducible refine Bl.trans_ ?_ (by assumption) | with_reducible refine Bl.trans_ ?_ (And.left (by assumption)))))).mono ?_; rintro e w5 ⟨v5, rfl, hv5, hb5⟩; have hcap := OwnA.cap_ hv5; obtain ⟨A5, c5, rfl, ha5, -⟩ := hv5.shape; have V5 := Lib.hid ha5; have HC5 := Lib.hid (hcap _ _ _ rfl); clear hv5 hcap ha5)
    try (go_wp2_with fail)
    refine hK.out _ _ ?_ (fun hHeld => ?_)
    · (exact HSH.out _ (by repeat' (first | exact Bl.refl _ | with_reducible assumption | with_reducible refine Bl.drew_ ?_ | with_reducible refine Bl.drewN_ ?_ _ | with_reducible refine Bl.alloc_ ?_ _ | with_reducible refine Bl.trans_ ?_ (by assumption) | with_reducible refine Bl.trans_ ?_ (And.left (by assumption)))))
    clear hK K
    try simp only [Act.put, List.getElem_toArray, List.getElem_cons_succ, List.getElem_cons_zero, List.setIfInBounds_toArray, List.set_cons_zero, List.set_cons_succ]
    refine wpAnyH_ready (rs := [8]) (by kernel_rfl) (by simp) ?_
    refine AllReadyH.cons rfl (fun K hK => ?_) AllReadyH.nil
    go_simp
    (go_at_call 92; refine (distances_any q s A5 (amongL P L).length c5 (amongL P L) rfl HC5.out HOA.out hs.1 hs.2 _ (V5.out.bl (by repeat' (first | exact Bl.refl _ | with_reducible assumption | with_reducible refine Bl.drew_ ?_ | with_reducible refine Bl.drewN_ ?_ _ | with_reducible refine Bl.alloc_ ?_ _ | with_reducible refine Bl.trans_ ?_ (by assumption) | with_reducible refine Bl.trans_ ?_ (And.left (by assumption)))))).mono ?_; rintro e w6 ⟨E, rfl, hE, hEd, hb6⟩; have EL := Lib.hid hE; have ED := Lib.hid hEd; clear hE hEd; have hix := index24 E EL.out u (by omega) w6)
    try (go_wp2_with fail)
    refine hK.out _ _ ?_ (fun hHeld => ?_)
    · (exact HSH.out _ (by repeat' (first | exact Bl.refl _ | with_reducible assumption | with_reducible refine Bl.drew_ ?_ | with_reducible refine Bl.drewN_ ?_ _ | with_reducible refine Bl.alloc_ ?_ _ | with_reducible refine Bl.trans_ ?_ (by assumption) | with_reducible refine Bl.trans_ ?_ (And.left (by assumption)))))
    clear hK K
    try simp only [Act.put, List.getElem_toArray, List.getElem_cons_succ, List.getElem_cons_zero, List.setIfInBounds_toArray, List.set_cons_zero, List.set_cons_succ]
    refine wpAnyH_ready (rs := [10]) (by kernel_rfl) (by simp) ?_
    refine AllReadyH.cons rfl (fun K hK => ?_) AllReadyH.nil
    go_simp
    refine hK.out _ _ ?_ (fun hHeld => ?_)
    · (exact HSH.out _ (by repeat' (first | exact Bl.refl _ | with_reducible assumption | with_reducible refine Bl.drew_ ?_ | with_reducible refine Bl.drewN_ ?_ _ | with_reducible refine Bl.alloc_ ?_ _ | with_reducible refine Bl.trans_ ?_ (by assumption) | with_reducible refine Bl.trans_ ?_ (And.left (by assumption)))))
    clear hK K
    try simp only [Act.put, List.getElem_toArray, List.getElem_cons_succ, List.getElem_cons_zero, List.setIfInBounds_toArray, List.set_cons_zero, List.set_cons_succ]
    refine wpAnyH_take (i := 11) (v := ?_) rfl (by kernel_rfl) (by kernel_rfl) (by kernel_rfl) (fun _ _ _ h => h) (Or.inl ⟨by kernel_rfl, ?_⟩) (by assumption) ?_
    rotate_left
    · (intro wx hSw; (try dsimp only at hSw); go_simp; try (with_reducible rfl))
    try simp only [Act.put, List.getElem_toArray, List.getElem_cons_succ, List.getElem_cons_zero, List.setIfInBounds_toArray, List.set_cons_zero, List.set_cons_succ]
    refine wpAnyH_done (by kernel_rfl) ?_ _
    have DB := Lib.hid (show Bl w1 w6 from (by repeat' (first | exact Bl.refl _ | with_reducible assumption | with_reducible refine Bl.drew_ ?_ | with_reducible refine Bl.drewN_ ?_ _ | with_reducible refine Bl.alloc_ ?_ _ | with_reducible refine Bl.trans_ ?_ (by assumption) | with_reducible refine Bl.trans_ ?_ (And.left (by assumption)))))
    have HD := Lib.hid (show dAt E (u : Int) = qreachI q L V s u from by
      rw [HA.out, ← ED.out, Int.toNat_natCast]
      unfold dAt
      simp only [List.getD_eq_getElem?_getD]
      rw [List.getElem?_take, if_pos (by omega)])
    go_wp2
    go_ret
    exact ⟨ret_int HD.out, hbw.out.trans_ DB.out⟩

set_option maxRecDepth 100000 in
set_option maxHeartbeats 1000000 in
theorem specQueryReach_any (N s t : Int) (A : Option Addr) (n c : Nat) (L : List Arc3) (hn : n = L.length) (A2 : Option Addr) (kk c2 : Nat) (V : List Int) (hk : kk = V.length) (w : World) (hm : n ≤ 1048576) (hkm : kk ≤ 1048576) (H1 : ArcsAt w w.heap.size A L) (H2 : IntsAt w w.heap.size A2 V) :
    Calls Try.prog 42 #[.agg #[.int .i64 N, .slice A n c], .slice A2 kk c2, .int .i64 s, .int .i64 t] w fun e w' => e = .returned (.int .i64 (qreachI N L V s t)) ∧ Bl w w' := by
  have K1 := Lib.hid H1
  have K2 := Lib.hid H2
  have HN := Lib.hid hn
  have HK := Lib.hid hk
  clear H1 H2 hn hk
  cases hr : reachB N L V with
  | false =>
    have AB := Lib.hid (qreachI_no (askB_no1 (s := s) (t := t) hr))
    have RB := Lib.hid hr
    clear hr
    go_enter Try.func42, Try.ntmps42
    go_wp2_with fail
    refine (specReachOk_any N A n c L HN.out A2 kk c2 V HK.out _ hm hkm (K1.out.bl (by repeat' (first | exact Bl.refl _ | with_reducible assumption | with_reducible refine Bl.drew_ ?_ | with_reducible refine Bl.drewN_ ?_ _ | with_reducible refine Bl.alloc_ ?_ _ | with_reducible refine Bl.trans_ ?_ (by assumption) | with_reducible refine Bl.trans_ ?_ (And.left (by assumption))))) (K2.out.bl (by repeat' (first | exact Bl.refl _ | with_reducible assumption | with_reducible refine Bl.drew_ ?_ | with_reducible refine Bl.drewN_ ?_ _ | with_reducible refine Bl.alloc_ ?_ _ | with_reducible refine Bl.trans_ ?_ (by assumption) | with_reducible refine Bl.trans_ ?_ (And.left (by assumption)))))).mono ?_
    rintro e w1 ⟨rfl, hb1⟩
    rw [RB.out]
    go_wp2
    go_ret
    exact ⟨ret_int AB.out.symm, (by repeat' (first | exact Bl.refl _ | with_reducible assumption | with_reducible refine Bl.drew_ ?_ | with_reducible refine Bl.drewN_ ?_ _ | with_reducible refine Bl.alloc_ ?_ _ | with_reducible refine Bl.trans_ ?_ (by assumption) | with_reducible refine Bl.trans_ ?_ (And.left (by assumption))))⟩
  | true =>
    have RB := Lib.hid hr
    have HO := Lib.hid (reachB_ok hr).1
    have ho := HO.out
    have hN24 := (okB_elim ho).2.1
    have HNS := Lib.hid (nodeB_ok (v := s) ho)
    have HNT := Lib.hid (nodeB_ok (v := t) ho)
    clear hr
    by_cases hs : 0 ≤ s ∧ s < N
    · have hsd : decide (0 ≤ s ∧ s < N) = true := by simpa using hs
      have HS := Lib.hid hsd
      by_cases ht : 0 ≤ t ∧ t < N
      · have htd : decide (0 ≤ t ∧ t < N) = true := by simpa using ht
        have HT := Lib.hid htd
        have AB := Lib.hid (show qreachI N L V s t = dAt (distL N L s) t from if_pos (askB_yes RB.out hsd htd))
        clear hsd htd
        go_enter Try.func42, Try.ntmps42
        go_wp2_with fail
        refine (specReachOk_any N A n c L HN.out A2 kk c2 V HK.out _ hm hkm (K1.out.bl (by repeat' (first | exact Bl.refl _ | with_reducible assumption | with_reducible refine Bl.drew_ ?_ | with_reducible refine Bl.drewN_ ?_ _ | with_reducible refine Bl.alloc_ ?_ _ | with_reducible refine Bl.trans_ ?_ (by assumption) | with_reducible refine Bl.trans_ ?_ (And.left (by assumption))))) (K2.out.bl (by repeat' (first | exact Bl.refl _ | with_reducible assumption | with_reducible refine Bl.drew_ ?_ | with_reducible refine Bl.drewN_ ?_ _ | with_reducible refine Bl.alloc_ ?_ _ | with_reducible refine Bl.trans_ ?_ (by assumption) | with_reducible refine Bl.trans_ ?_ (And.left (by assumption)))))).mono ?_
        rintro e w1 ⟨rfl, hb1⟩
        rw [RB.out]
        obtain ⟨q0, q1⟩ := box2 hb1
        go_wp2_with fail
        refine (l1Node_any N s _ _).mono ?_
        rintro e w2 ⟨rfl, hb2⟩
        rw [HNS.out, HS.out]
        have hb2 := hb1.trans_ hb2
        obtain ⟨q0, q1⟩ := box2 hb2
        go_wp2_with fail
        refine (l1Node_any N t _ _).mono ?_
        rintro e w3 ⟨rfl, hb3⟩
        rw [HNT.out, HT.out]
        have hb3 := hb2.trans_ hb3
        obtain ⟨q0, q1⟩ := box2 hb3
        have BW := Lib.hid (show Bl w w3 from (Bl.alloc_ (Bl.refl w) _).trans_ hb3)
        go_wp2_with fail
        refine (l3Dist_any N s A n c L HN.out HO.out hs.1 hs.2 _ hm (K1.out.bl BW.out)).mono ?_
        rintro e w4 ⟨v4, rfl, hv4, hb4⟩
        have hl : (distL N L s).length = N.toNat := distL_len HO.out hs.1 hs.2
        obtain ⟨A4, c4, rfl, -, hi4, -, -⟩ := OwnN.shape hv4
        obtain ⟨u, rfl⟩ : ∃ u : Nat, t = u := ⟨t.toNat, by omega⟩
        obtain ⟨g4, o4, rfl, hg4, hc4⟩ := hi4.cell (by omega)
        have p4 := hc4 u (by omega)
        rw [← dAt_at (D := distL N L s) (by omega)] at p4
        rw [← AB.out] at p4
        have u0 : (0 : Int) ≤ (u : Int) := by omega
        have u1 : (u : Int) < ((distL N L s).length : Int) := by omega
        clear hc4 hi4 hv4
        go_wp2
        go_ret
        exact ⟨rfl, BW.out.trans_ hb4⟩
      · have htd : decide (0 ≤ t ∧ t < N) = false := by simpa using ht
        have HT := Lib.hid htd
        have AB := Lib.hid (qreachI_no (L := L) (V := V) (askB_no3 (s := s) htd))
        clear hsd htd
        go_enter Try.func42, Try.ntmps42
        go_wp2_with fail
        refine (specReachOk_any N A n c L HN.out A2 kk c2 V HK.out _ hm hkm (K1.out.bl (by repeat' (first | exact Bl.refl _ | with_reducible assumption | with_reducible refine Bl.drew_ ?_ | with_reducible refine Bl.drewN_ ?_ _ | with_reducible refine Bl.alloc_ ?_ _ | with_reducible refine Bl.trans_ ?_ (by assumption) | with_reducible refine Bl.trans_ ?_ (And.left (by assumption))))) (K2.out.bl (by repeat' (first | exact Bl.refl _ | with_reducible assumption | with_reducible refine Bl.drew_ ?_ | with_reducible refine Bl.drewN_ ?_ _ | with_reducible refine Bl.alloc_ ?_ _ | with_reducible refine Bl.trans_ ?_ (by assumption) | with_reducible refine Bl.trans_ ?_ (And.left (by assumption)))))).mono ?_
        rintro e w1 ⟨rfl, hb1⟩
        rw [RB.out]
        obtain ⟨q0, q1⟩ := box2 hb1
        go_wp2_with fail
        refine (l1Node_any N s _ _).mono ?_
        rintro e w2 ⟨rfl, hb2⟩
        rw [HNS.out, HS.out]
        have hb2 := hb1.trans_ hb2
        obtain ⟨q0, q1⟩ := box2 hb2
        go_wp2_with fail
        refine (l1Node_any N t _ _).mono ?_
        rintro e w3 ⟨rfl, hb3⟩
        rw [HNT.out, HT.out]
        have hb3 := hb2.trans_ hb3
        go_wp2
        go_ret
        exact ⟨ret_int AB.out.symm, (Bl.alloc_ (Bl.refl w) _).trans_ hb3⟩
    · have hsd : decide (0 ≤ s ∧ s < N) = false := by simpa using hs
      have HS := Lib.hid hsd
      have AB := Lib.hid (qreachI_no (L := L) (V := V) (askB_no2 (t := t) hsd))
      clear hsd
      go_enter Try.func42, Try.ntmps42
      go_wp2_with fail
      refine (specReachOk_any N A n c L HN.out A2 kk c2 V HK.out _ hm hkm (K1.out.bl (by repeat' (first | exact Bl.refl _ | with_reducible assumption | with_reducible refine Bl.drew_ ?_ | with_reducible refine Bl.drewN_ ?_ _ | with_reducible refine Bl.alloc_ ?_ _ | with_reducible refine Bl.trans_ ?_ (by assumption) | with_reducible refine Bl.trans_ ?_ (And.left (by assumption))))) (K2.out.bl (by repeat' (first | exact Bl.refl _ | with_reducible assumption | with_reducible refine Bl.drew_ ?_ | with_reducible refine Bl.drewN_ ?_ _ | with_reducible refine Bl.alloc_ ?_ _ | with_reducible refine Bl.trans_ ?_ (by assumption) | with_reducible refine Bl.trans_ ?_ (And.left (by assumption)))))).mono ?_
      rintro e w1 ⟨rfl, hb1⟩
      rw [RB.out]
      obtain ⟨q0, q1⟩ := box2 hb1
      go_wp2_with fail
      refine (l1Node_any N s _ _).mono ?_
      rintro e w2 ⟨rfl, hb2⟩
      rw [HNS.out, HS.out]
      have hb2 := hb1.trans_ hb2
      go_wp2
      go_ret
      exact ⟨ret_int AB.out.symm, (Bl.alloc_ (Bl.refl w) _).trans_ hb2⟩

end Go.Proofs.Ytmdmbobjdhjadaa

set_option linter.unusedSimpArgs false
set_option linter.unusedVariables false
namespace Go.Proofs.Ytmdmbobjdhjadaa
open Go.RowKit

set_option maxRecDepth 100000 in
set_option maxHeartbeats 1000000 in
theorem lawQueryReach_any (N : Int) (A : Option Addr) (n c : Nat) (L : List Arc3) (hn : n = L.length) (A2 : Option Addr) (k c2 : Nat) (P : List Int) (hk : k = P.length) (s t : Int) (w : World) (hm : n ≤ 9223372036854775807) (hkm : k ≤ 9223372036854775807) (H1 : ArcsAt w w.heap.size A L) (H2 : IntsAt w w.heap.size A2 P) :
    Calls Try.prog 10 #[.agg #[.int .i64 N, .slice A n c], .slice A2 k c2, .int .i64 s, .int .i64 t] w fun e w' => e = .returned (.bool true) ∧ Bl w w' := by
  have K1 := Lib.hid H1
  have K2 := Lib.hid H2
  have HN := Lib.hid hn
  have HK := Lib.hid hk
  clear H1 H2 hn hk
  by_cases hk1 : (1048576 : Int) < (k : Int)
  · have b1 : decide ((1048576 : Int) < (k : Int)) = true := by simpa using hk1
    go_enter Try.func10, Try.ntmps10
    go_wp2
    go_ret
    exact ⟨rfl, (by repeat' (first | exact Bl.refl _ | with_reducible assumption | with_reducible refine Bl.drew_ ?_ | with_reducible refine Bl.drewN_ ?_ _ | with_reducible refine Bl.alloc_ ?_ _ | with_reducible refine Bl.trans_ ?_ (by assumption) | with_reducible refine Bl.trans_ ?_ (And.left (by assumption))))⟩
  · have b1 : decide ((1048576 : Int) < (k : Int)) = false := by simpa using hk1
    have hk' : k ≤ 1048576 := by omega
    clear hk1
    by_cases hbig : (1048576 : Int) - n < 0
    · go_enter Try.func10, Try.ntmps10
      go_wp2_with (go_at_call 20; refine (szGraph_any _ _ _ _ _ _ hm (by omega) (by omega)).mono ?_; rintro e w' ⟨rfl, hb⟩; obtain ⟨hc, hf⟩ := bcell hb)
      go_ret
      exact ⟨rfl, (by repeat' (first | exact Bl.refl _ | with_reducible assumption | with_reducible refine Bl.drew_ ?_ | with_reducible refine Bl.drewN_ ?_ _ | with_reducible refine Bl.alloc_ ?_ _ | with_reducible refine Bl.trans_ ?_ (by assumption) | with_reducible refine Bl.trans_ ?_ (And.left (by assumption))))⟩
    · have hm' : n ≤ 1048576 := by omega
      clear hbig
      go_enter Try.func10, Try.ntmps10
      go_wp2_with fail
      refine (szGraph_small N A n c _ hm').mono ?_
      rintro e w1 ⟨rfl, hb1⟩
      obtain ⟨q0, q1⟩ := box2 hb1
      have p1 : (0 : Int) ≤ 1048576 - (n : Int) := by omega
      go_wp2_with fail
      refine (toGraph_any N A n c L HN.out _ hm' (K1.out.bl (by repeat' (first | exact Bl.refl _ | with_reducible assumption | with_reducible refine Bl.drew_ ?_ | with_reducible refine Bl.drewN_ ?_ _ | with_reducible refine Bl.alloc_ ?_ _ | with_reducible refine Bl.trans_ ?_ (by assumption) | with_reducible refine Bl.trans_ ?_ (And.left (by assumption)))))).mono ?_
      rintro e w2 ⟨g2, rfl, ha2, hg2, hb2⟩
      have hb2 := hb1.trans_ hb2
      obtain ⟨q0, q1⟩ := box2 hb2
      have HA2 := Lib.hid ha2
      clear ha2
      go_wp2_with fail
      refine (toInt64S_any A2 k c2 P HK.out _ hk' (K2.out.bl ((Bl.alloc_ (Bl.refl w) _).trans_ hb2))).mono ?_
      rintro e w3 ⟨rfl, hi3, hb3⟩
      have HI3 := Lib.hid hi3
      have HA3 := Lib.hid (HA2.out.bl hb3)
      have hb3 := hb2.trans_ hb3
      obtain ⟨q0, q1⟩ := box2 hb3
      clear hi3
      go_wp2_with fail
      refine (specQueryReach_any N s t _ n n L HN.out _ k k P HK.out _ hm' hk' HA3.out HI3.out).mono ?_
      rintro e w4 ⟨rfl, hb4⟩
      have hb4 := hb3.trans_ hb4
      obtain ⟨q0, q1⟩ := box2 hb4
      go_wp2_with fail
      refine (toGraph_any N A n c L HN.out _ hm' (K1.out.bl ((Bl.alloc_ (Bl.refl w) _).trans_ hb4))).mono ?_
      rintro e w5 ⟨g5, rfl, ha5, hg5, hb5⟩
      have HA5 := Lib.hid (ha5.bl (Bl.alloc_ (Bl.refl w5) (.cells #[.int .i64 N, .slice (some ⟨g5, 0, none⟩) n n] 42)))
      have hB5 := hb4.trans_ (hb5.trans_ (Bl.alloc_ (Bl.refl w5) (.cells #[.int .i64 N, .slice (some ⟨g5, 0, none⟩) n n] 42)))
      have hX5 : Bl (w5.alloc (.cells #[.int .i64 N, .slice (some ⟨g5, 0, none⟩) n n] 42)) (w5.alloc (.cells #[.int .i64 N, .slice (some ⟨g5, 0, none⟩) n n] 42)) := Bl.refl _
      clear ha5 q0 q1
      go_wp2_with fail
      refine (toInt64S_any A2 k c2 P HK.out _ hk' (K2.out.bl ((Bl.alloc_ (Bl.refl w) _).trans_ hB5))).mono ?_
      rintro e w6 ⟨rfl, hi6, hb6⟩
      have HI6 := Lib.hid (show IntsAt w6 w6.heap.size (some ⟨w5.heap.size + 1, 0, none⟩) P from by simpa only [World.size_alloc] using hi6)
      have HA6 := Lib.hid (HA5.out.bl hb6)
      obtain ⟨x0, x1⟩ := box2 hb6
      have hB6 := hB5.trans_ hb6
      clear hi6
      go_wp2_with fail
      refine (implQueryReach_any N s t _ n n L HN.out _ k k P HK.out (Nat.le_refl _) _ hm' hk' HA6.out HI6.out).mono ?_
      rintro e w7 ⟨rfl, hb7⟩
      have HI7 := Lib.hid (HI6.out.bl hb7)
      have HA7 := Lib.hid (HA6.out.bl hb7)
      have hX7 := hb6.trans_ hb7
      have hB7 := hB6.trans_ hb7
      have hne : (qreachI N L P s t != qreachI N L P s t) = false := by simp
      have HSH := Lib.hid (show ∀ wx, Bl w7 wx → Bl w7 wx ∧ wx.cell? ⟨w.heap.size, 0, none⟩ = some (.int .i64 N) ∧ wx.cell? ⟨w.heap.size, 1, none⟩ = some (.slice A n c) ∧ wx.cell? ⟨w5.heap.size, 0, none⟩ = some (.int .i64 N) ∧ wx.cell? ⟨w5.heap.size, 1, none⟩ = some (.slice (some ⟨g5, 0, none⟩) n n) from fun wx hb =>
        ⟨hb, (box2 (hB7.trans_ hb)).1, (box2 (hB7.trans_ hb)).2, (box2 (hX7.trans_ hb)).1, (box2 (hX7.trans_ hb)).2⟩)
      have hbw : Bl w w7 := (Bl.alloc_ (Bl.refl w) _).trans_ hB7
      clear x0 x1
      go_wp2_with fail
      refine wp_region_held_drew (S := fun wx => Bl w7 wx ∧ wx.cell? ⟨w.heap.size, 0, none⟩ = some (.int .i64 N) ∧ wx.cell? ⟨w.heap.size, 1, none⟩ = some (.slice A n c) ∧ wx.cell? ⟨w5.heap.size, 0, none⟩ = some (.int .i64 N) ∧ wx.cell? ⟨w5.heap.size, 1, none⟩ = some (.slice (some ⟨g5, 0, none⟩) n n)) (by kernel_rfl) ?_ (fun hHeld => ?_)
      · (exact HSH.out _ (by repeat' (first | exact Bl.refl _ | with_reducible assumption | with_reducible refine Bl.drew_ ?_ | with_reducible refine Bl.drewN_ ?_ _ | with_reducible refine Bl.alloc_ ?_ _ | with_reducible refine Bl.trans_ ?_ (by assumption) | with_reducible refine Bl.trans_ ?_ (And.left (by assumption)))))
      refine wpAnyH_take (i := 0) (v := ?_) rfl (by kernel_rfl) (by kernel_rfl) (by kernel_rfl) (fun _ _ _ h => h) (Or.inl ⟨by kernel_rfl, ?_⟩) (by assumption) ?_
      rotate_left
      · (intro wx hSw; (try dsimp only at hSw); go_simp; try (with_reducible rfl))
      try simp only [Act.put, List.getElem_toArray, List.getElem_cons_succ, List.getElem_cons_zero, List.setIfInBounds_toArray, List.set_cons_zero, List.set_cons_succ]
      refine wpAnyH_take (i := 1) (v := ?_) rfl (by kernel_rfl) (by kernel_rfl) (by kernel_rfl) (fun _ _ _ h => h) (Or.inl ⟨by kernel_rfl, ?_⟩) (by assumption) ?_
      rotate_left
      · (intro wx hSw; (try dsimp only at hSw); go_simp; try (with_reducible rfl))
      try simp only [Act.put, List.getElem_toArray, List.getElem_cons_succ, List.getElem_cons_zero, List.setIfInBounds_toArray, List.set_cons_zero, List.set_cons_succ]
      refine wpAnyH_ready (rs := [2]) (by kernel_rfl) (by simp) ?_
      refine AllReadyH.cons rfl (fun K hK => ?_) AllReadyH.nil
      go_simp
      (go_at_call 22; refine (toGraph_any N A n c L HN.out _ hm' (K1.out.bl (hbw.trans_ (by repeat' (first | exact Bl.refl _ | with_reducible assumption | with_reducible refine Bl.drew_ ?_ | with_reducible refine Bl.drewN_ ?_ _ | with_reducible refine Bl.alloc_ ?_ _ | with_reducible refine Bl.trans_ ?_ (by assumption) | with_reducible refine Bl.trans_ ?_ (And.left (by assumption))))))).mono ?_; rintro e w8 ⟨g8, rfl, ha8, hg8, hb8⟩; have HA8 := Lib.hid ha8; clear ha8)
      try (go_wp2_with fail)
      refine hK.out _ _ ?_ (fun hHeld => ?_)
      · (exact HSH.out _ (by repeat' (first | exact Bl.refl _ | with_reducible assumption | with_reducible refine Bl.drew_ ?_ | with_reducible refine Bl.drewN_ ?_ _ | with_reducible refine Bl.alloc_ ?_ _ | with_reducible refine Bl.trans_ ?_ (by assumption) | with_reducible refine Bl.trans_ ?_ (And.left (by assumption)))))
      clear hK K
      try simp only [Act.put, List.getElem_toArray, List.getElem_cons_succ, List.getElem_cons_zero, List.setIfInBounds_toArray, List.set_cons_zero, List.set_cons_succ]
      refine wpAnyH_ready (rs := [3]) (by kernel_rfl) (by simp) ?_
      refine AllReadyH.cons rfl (fun K hK => ?_) AllReadyH.nil
      go_simp
      (go_at_call 25; refine (eqGraph_yes N _ _ n n L n HN.out _ hm (HA7.out.bl (by repeat' (first | exact Bl.refl _ | with_reducible assumption | with_reducible refine Bl.drew_ ?_ | with_reducible refine Bl.drewN_ ?_ _ | with_reducible refine Bl.alloc_ ?_ _ | with_reducible refine Bl.trans_ ?_ (by assumption) | with_reducible refine Bl.trans_ ?_ (And.left (by assumption))))) HA8.out).mono ?_; rintro e w9 ⟨rfl, hb9⟩)
      try (go_wp2_with fail)
      refine hK.out _ _ ?_ (fun hHeld => ?_)
      · (exact HSH.out _ (by repeat' (first | exact Bl.refl _ | with_reducible assumption | with_reducible refine Bl.drew_ ?_ | with_reducible refine Bl.drewN_ ?_ _ | with_reducible refine Bl.alloc_ ?_ _ | with_reducible refine Bl.trans_ ?_ (by assumption) | with_reducible refine Bl.trans_ ?_ (And.left (by assumption)))))
      clear hK K
      try simp only [Act.put, List.getElem_toArray, List.getElem_cons_succ, List.getElem_cons_zero, List.setIfInBounds_toArray, List.set_cons_zero, List.set_cons_succ]
      refine wpAnyH_take (i := 4) (v := ?_) rfl (by kernel_rfl) (by kernel_rfl) (by kernel_rfl) (fun _ _ _ h => h) (Or.inl ⟨by kernel_rfl, ?_⟩) (by assumption) ?_
      rotate_left
      · (intro wx hSw; (try dsimp only at hSw); go_simp; try (with_reducible rfl))
      try simp only [Act.put, List.getElem_toArray, List.getElem_cons_succ, List.getElem_cons_zero, List.setIfInBounds_toArray, List.set_cons_zero, List.set_cons_succ]
      refine wpAnyH_done (by kernel_rfl) ?_ _
      have P9 : Bl w7 w9 := (by repeat' (first | exact Bl.refl _ | with_reducible assumption | with_reducible refine Bl.drew_ ?_ | with_reducible refine Bl.drewN_ ?_ _ | with_reducible refine Bl.alloc_ ?_ _ | with_reducible refine Bl.trans_ ?_ (by assumption) | with_reducible refine Bl.trans_ ?_ (And.left (by assumption))))
      go_wp2_with fail
      refine (toInt64S_any A2 k c2 P HK.out _ hk' (K2.out.bl (hbw.trans_ P9))).mono ?_
      rintro e w10 ⟨rfl, hi10, hb10⟩
      have HI10 := Lib.hid hi10
      clear hi10
      go_wp2_with fail
      refine (eqInt64S_yes _ _ k k P k HK.out _ (by omega) (HI7.out.bl (P9.trans_ hb10)) HI10.out).mono ?_
      rintro e w11 ⟨rfl, hb11⟩
      go_wp2
      go_ret
      exact ⟨rfl, hbw.trans_ (P9.trans_ (hb10.trans_ hb11))⟩

end Go.Proofs.Ytmdmbobjdhjadaa
