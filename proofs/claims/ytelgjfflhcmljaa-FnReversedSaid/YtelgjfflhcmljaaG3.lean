/-
  What is proved here: spec.Weighed puts an arc of a new weight in its place, as the model does. No conditions beyond those that each theorem states.
-/
import Derived.Test.YtelgjfflhcmljaaG2
import Derived.Deep.RegionLaw
set_option linter.unusedSimpArgs false
set_option linter.unusedVariables false
namespace Go.Proofs.Ytelgjfflhcmljaa
open Go.RowKit

theorem step_append_own {P : Program} (w : World) {ops : Array Oper} {o : Oper} {a : Act} {K : Act → World → Prop} {Q : Exit → Act → World → Prop} {E : Prop} (hgd : o.guard = none) (s x : Operand) (t : TypeId)
    (ho : o.op = .call { callee := .builtin .append, args := #[s, x], argTypes := #[t, t] })
    (base : Nat) (e : TypeId) (i : TypeInfo) (z : Value) (size bytes : Nat) (ht : P.underlying t = some (.slice e)) (hi : P.info? e = some i) (hz : i.zero = some z)
    (hsize : i.size = size) (hby : i.bytes = bytes) (hzs : z.cells.size = size) (hsz : 0 < size)
    (v : Value) (n : Nat) (xs : List Value) (hs : a.eval s = v) (hown : w.ownsRow base e size v n xs)
    (ad : Addr) (m c : Nat) (news : List Value) (hx : a.eval x = .slice (some ad) m c) (hl : news.length = m * size) (hnews : ∀ j u, news[j]? = some u → w.cell? (ad.add j) = some u) (h1 : ∀ u ∈ news, u.oneCell' = true)
    (h63 : n + m ≤ maxLen) (hbytes : (n + m) * bytes ≤ 140737488355328) (hbase : base ≤ w.heap.size)
    (h : ∀ v' w', w'.ownsRow base e size v' (n + m) (xs ++ news) → w.grownBy w' v.ownBlock → K (a.put o.dst v') w') :
    if Region.wanted o (yielded ops a.tmps) = true then Oper.wp P o a w K Q else E := by
  have hw : Region.wanted o (yielded ops a.tmps) = true := by simp [Region.wanted, hgd]
  rw [if_pos hw]
  exact wp_append_own w s x t ho base e i z size bytes ht hi hz hsize hby hzs hsz v n xs hs hown ad m c news hx hl hnews h1 h63 hbytes hbase fun v' w' h2 h3 _ => h v' w' h2 h3

theorem rest_no {u v : Int} {L : List Arc3} {k : Nat} (h : k < L.length) (he : isEnds u v L[k] = true) : restL u v (L.take (k + 1)) = restL u v (L.take k) := by
  unfold restL
  rw [List.take_succ_eq_append_getElem h, List.filter_append]
  simp [List.filter_cons, he]
theorem rest_yes {u v : Int} {L : List Arc3} {k : Nat} (h : k < L.length) (he : isEnds u v L[k] = false) : restL u v (L.take (k + 1)) = restL u v (L.take k) ++ [L[k]] := by
  unfold restL
  rw [List.take_succ_eq_append_getElem h, List.filter_append]
  simp [List.filter_cons, he]
theorem rest_len (u v : Int) (L : List Arc3) (k : Nat) : (restL u v (L.take k)).length ≤ k := by
  unfold restL
  exact Nat.le_trans (List.length_filter_le _ _) (List.length_take_le _ _)

theorem far_facts {wr w2 : World} {o : Obj} {row : Option Nat} {b : Nat} (hg : ((wr.alloc o).drew).grownBy w2 row) (hb : b < wr.heap.size) (hne : some b ≠ row) (j : Nat) :
    w2.cell? ⟨b, j, none⟩ = wr.cell? ⟨b, j, none⟩ ∧ w2.frozen? ⟨b, j, none⟩ = wr.frozen? ⟨b, j, none⟩ := by
  have h : w2.heap[b]? = wr.heap[b]? := (hg.block b (by show b < (wr.alloc o).heap.size; simp; omega) hne).trans (Below.heap_alloc wr o b hb)
  exact ⟨World.cell?_of_block h, World.frozen?_of_block h⟩

/-- A new graph is left. -/
def GraphMade1 (N : Int) (M : List Arc3) (w : World) (e : Ending) (w' : World) : Prop := ∃ v, e = .returned (.agg #[.int .i64 N, v]) ∧ OwnA w' w.heap.size v M ∧ Bl w w'

set_option maxRecDepth 100000 in
set_option maxHeartbeats 8000000 in
theorem l1Weigh_any (N u v x : Int) (A : Option Addr) (n c : Nat) (L : List Arc3) (hn : n = L.length) (w : World) (hm : n ≤ 1048576) (H1 : ArcsAt w w.heap.size A L) :
    Calls Try.prog 82 #[.agg #[.int .i64 N, .slice A n c], .int .i64 u, .int .i64 v, .int .i64 x] w (GraphMade1 N (weighedL u v x L) w) := by
  obtain ⟨i0, hi, hz0, hz1, hz2⟩ := info_parts infoArc
  have I0 := Lib.hid hi
  have I1 := Lib.hid hz0
  have I2 := Lib.hid hz1
  have I3 := Lib.hid hz2
  have K1 := Lib.hid H1
  have HN := Lib.hid hn
  clear H1 hn hi hz0 hz1 hz2
  go_enter Try.func82, Try.ntmps82
  go_wp2
  go_loopw [10] (fun i wr => ∃ (k : Nat) (q : Value), k ≤ n ∧ i = .int .i64 k ∧ OwnA wr (w.heap.size + 3) q (restL u v (L.take k)) ∧ Bl ((w.alloc (.cells #[.int .i64 N, .slice A n c] 29)).alloc (.cells #[.int .i64 0, .slice none 0 0] 29)) wr ∧ w.heap.size + 2 < wr.heap.size ∧
      wr.cell? ⟨w.heap.size + 2, 0, none⟩ = some (.int .i64 N) ∧ wr.cell? ⟨w.heap.size + 2, 1, none⟩ = some q ∧ wr.frozen? ⟨w.heap.size + 2, 0, none⟩ = false ∧ wr.frozen? ⟨w.heap.size + 2, 1, none⟩ = false) (fun i _ => n - (intOf i).toNat)
  case atStart => exact ⟨0, _, by omega, rfl, OwnA.nil_ _ _, (by repeat' (first | exact Bl.refl _ | with_reducible assumption | with_reducible refine Bl.drew_ ?_ | with_reducible refine Bl.drewN_ ?_ _ | with_reducible refine Bl.alloc_ ?_ _ | with_reducible refine Bl.trans_ ?_ (by assumption) | with_reducible refine Bl.trans_ ?_ (And.left (by assumption)))), by simp, by simp [go_sem], by simp [go_sem], by simp [go_sem], by simp [go_sem]⟩
  case round =>
    obtain ⟨k, q, hk, rfl, hown, hbl, hsz, k0, k1, f0, f1⟩ := hrel
    obtain ⟨h00, h01, h10, h11, f10, f11, hsz1⟩ := box22 hbl
    have hbw : Bl w wr := (Bl.alloc_ (Bl.alloc_ (Bl.refl w) _) _).trans_ hbl
    have O := Lib.hid hown
    clear hown
    by_cases hlt : k < n
    · have hkl : k < L.length := by have := HN.out; omega
      obtain ⟨g1, o1, rfl, hg1, hc1⟩ := K1.out (by omega)
      obtain ⟨p1, p2, p3⟩ := hc1 k hkl
      clear hc1
      rw [← (bcell hbw).1 _ _ hg1] at p1 p2 p3
      have hlen := rest_len u v L k
      have RN := Lib.hid (fun he => rest_no (u := u) (v := v) hkl he)
      have RY := Lib.hid (fun he => rest_yes (u := u) (v := v) hkl he)
      generalize hx : L[k].1 = x1 at p1
      generalize hy : L[k].2.1 = y1 at p2
      generalize hz : L[k].2.2 = z1 at p3
      have HX := Lib.hid hx
      have HY := Lib.hid hy
      have HZ := Lib.hid hz
      clear hx hy hz
      by_cases b1 : (x1 != u) = true
      · skip
        have HF := Lib.hid (RY.out (by rw [← HX.out] at b1; unfold isEnds; simp only [bne_iff_ne] at b1; rw [beq_eq_false_iff_ne.2 b1, Bool.false_and]))
        clear RN RY
        generalize restL u v (L.take k) = F at hlen HF O
        have u1 : (0 : Int) ≤ (k : Int) := by omega
        have u2 : (k : Int) < (n : Int) := by omega
        go_wp2_with fail
        go_region_law (refine step_append_own _ rfl (.tmp 40) (.tmp 46) 27 rfl (w.heap.size + 3) 82 i0 _ 3 24 Try.underlying27 I0.out I1.out I2.out I3.out rfl (by decide) _ F.length (cs3 F) rfl (World.ownsRow.alloc O.out _) ⟨wr.heap.size, 0, none⟩ 1 1 [.int .i64 x1, .int .i64 y1, .int .i64 z1] rfl rfl (new3 _ _ _ _ _) (one3 _ _ _) (by unfold maxLen; omega) (by omega) (show w.heap.size + 3 ≤ (wr.alloc (.cells #[.int .i64 x1, .int .i64 y1, .int .i64 z1] 82)).heap.size from by simp; omega) ?_; intro v2 w2 hown2 hg2; have O2 := Lib.hid (own_snoc (a := L[k]) (by rw [HX.out, HY.out, HZ.out]; exact hown2)); obtain ⟨AA, cc, rfl, _, _⟩ := O2.out.shape; have G2 := Lib.hid hg2; clear hown2 hg2; have ne2 : some (w.heap.size + 2) ≠ q.ownBlock := (fun h => by have := (O.out.lt _ h.symm).1; omega); obtain ⟨e0, y0⟩ := far_facts G2.out hsz ne2 0; obtain ⟨e1, y1⟩ := far_facts G2.out hsz ne2 1; rw [k0] at e0; rw [k1] at e1; rw [f0] at y0; rw [f1] at y1)
        all_goals (go_wp2; go_roundw)
        all_goals (first | (case measure => (simp [intOf]; omega)) | skip)
        all_goals (refine ⟨k + 1, _, by omega, by go_num, (by rw [HF.out]; exact OwnA.set_ O2.out (by show w.heap.size + 2 < w.heap.size + 3; omega) _), ((hbl.alloc_ _).drew_.grown_ G2.out (fun g hg => by have := (O.out.lt g hg).1; simp; omega)).set_ (by simp) _, ?_, ?_, ?_, ?_, ?_⟩)
        all_goals first
          | (rw [World.size_setCell]; have hh := G2.out.size; have hh2 : wr.heap.size + 1 ≤ w2.heap.size := (by simpa using hh); omega)
          | (rw [World.cell?_setCell_other _ _ _ _ (by simp)]; exact e0)
          | (rw [List.length_append]; go_simp; done)
          | (go_simp; done)
      · have b1' : (x1 != u) = false := by simpa using b1
        clear b1
        by_cases b2 : (y1 != v) = true
        · skip
          have HF := Lib.hid (RY.out (by rw [← HY.out] at b2; unfold isEnds; simp only [bne_iff_ne] at b2; rw [beq_eq_false_iff_ne.2 b2, Bool.and_false]))
          clear RN RY
          generalize restL u v (L.take k) = F at hlen HF O
          have u1 : (0 : Int) ≤ (k : Int) := by omega
          have u2 : (k : Int) < (n : Int) := by omega
          go_wp2_with fail
          go_region_law (refine step_append_own _ rfl (.tmp 40) (.tmp 46) 27 rfl (w.heap.size + 3) 82 i0 _ 3 24 Try.underlying27 I0.out I1.out I2.out I3.out rfl (by decide) _ F.length (cs3 F) rfl (World.ownsRow.alloc O.out _) ⟨wr.heap.size, 0, none⟩ 1 1 [.int .i64 x1, .int .i64 y1, .int .i64 z1] rfl rfl (new3 _ _ _ _ _) (one3 _ _ _) (by unfold maxLen; omega) (by omega) (show w.heap.size + 3 ≤ (wr.alloc (.cells #[.int .i64 x1, .int .i64 y1, .int .i64 z1] 82)).heap.size from by simp; omega) ?_; intro v2 w2 hown2 hg2; have O2 := Lib.hid (own_snoc (a := L[k]) (by rw [HX.out, HY.out, HZ.out]; exact hown2)); obtain ⟨AA, cc, rfl, _, _⟩ := O2.out.shape; have G2 := Lib.hid hg2; clear hown2 hg2; have ne2 : some (w.heap.size + 2) ≠ q.ownBlock := (fun h => by have := (O.out.lt _ h.symm).1; omega); obtain ⟨e0, y0⟩ := far_facts G2.out hsz ne2 0; obtain ⟨e1, y1⟩ := far_facts G2.out hsz ne2 1; rw [k0] at e0; rw [k1] at e1; rw [f0] at y0; rw [f1] at y1)
          all_goals (go_wp2; go_roundw)
          all_goals (first | (case measure => (simp [intOf]; omega)) | skip)
          all_goals (refine ⟨k + 1, _, by omega, by go_num, (by rw [HF.out]; exact OwnA.set_ O2.out (by show w.heap.size + 2 < w.heap.size + 3; omega) _), ((hbl.alloc_ _).drew_.grown_ G2.out (fun g hg => by have := (O.out.lt g hg).1; simp; omega)).set_ (by simp) _, ?_, ?_, ?_, ?_, ?_⟩)
          all_goals first
            | (rw [World.size_setCell]; have hh := G2.out.size; have hh2 : wr.heap.size + 1 ≤ w2.heap.size := (by simpa using hh); omega)
            | (rw [World.cell?_setCell_other _ _ _ _ (by simp)]; exact e0)
            | (rw [List.length_append]; go_simp; done)
            | (go_simp; done)
        · have b2' : (y1 != v) = false := by simpa using b2
          clear b2
          have HF := Lib.hid (RN.out (by rw [← HX.out] at b1'; rw [← HY.out] at b2'; simp only [bne_eq_false_iff_eq] at b1' b2'; exact isEnds_iff.2 ⟨b1', b2'⟩))
          go_wp2
          go_roundw
          case rel => exact ⟨k + 1, q, by omega, by go_num, by rw [HF.out]; exact O.out, hbl, hsz, k0, k1, f0, f1⟩
          case measure => simp [intOf]; omega
    · have HF := Lib.hid (show restL u v (L.take k) = restL u v L from by rw [List.take_of_length_le (by have := HN.out; omega)])
      rw [HF.out] at O
      have hlen : (restL u v L).length ≤ n := by rw [← HF.out]; exact Nat.le_trans (rest_len u v L k) hk
      obtain ⟨AQ, cq, rfl, hAQ, _⟩ := O.out.shape
      have Q := Lib.hid hAQ
      clear hAQ
      by_cases hx : 0 < x
      · have HW := Lib.hid (show weighedL u v x L = putL (u, v, x) (restL u v L) from if_pos hx)
        go_wp2_with fail
        refine (l1Put_any u v x AQ _ cq (restL u v L) rfl _ (by omega) Q.out).mono ?_
        rintro e w1 ⟨vv, rfl, hv, hb1⟩
        obtain ⟨A2, c2, rfl, _, _⟩ := hv.shape
        have V := Lib.hid hv
        clear hv
        have hs1 := hb1.size
        obtain ⟨hc1, hf1⟩ := bcell hb1
        have r0 := (hc1 (w.heap.size + 2) 0 hsz).trans k0
        have r1 := (hc1 (w.heap.size + 2) 1 hsz).trans k1
        have r2 := (hf1 (w.heap.size + 2) 0 hsz).trans f0
        have r3 := (hf1 (w.heap.size + 2) 1 hsz).trans f1
        have r4 := (hc1 (w.heap.size + 1) 0 hsz1).trans h10
        have r5 := (hc1 (w.heap.size + 1) 1 hsz1).trans h11
        have r6 := (hf1 (w.heap.size + 1) 0 hsz1).trans f10
        have r7 := (hf1 (w.heap.size + 1) 1 hsz1).trans f11
        clear hc1 hf1 k0 k1 f0 f1 h10 h11 f10 f11 h00 h01
        go_wp2
        refine bodyPost_ret (v := .agg #[.int .i64 N, .slice A2 (putL (u, v, x) (restL u v L)).length c2]) (by simp [results, Try.results82, go_sem, r4, r5, r6, r7, r0, r1]) rfl ?_
        refine ⟨_, rfl, ?_, Bl.set_ (Bl.set_ (Bl.set_ (hbw.trans_ hb1) (by show w.heap.size ≤ w.heap.size + 2; omega) _) (by show w.heap.size ≤ w.heap.size + 1; omega) _) (by show w.heap.size ≤ w.heap.size + 1; omega) _⟩
        rw [HW.out]
        exact (OwnA.set_ (OwnA.set_ (OwnA.set_ V.out (by show w.heap.size + 2 < _; omega) _) (by show w.heap.size + 1 < _; omega) _) (by show w.heap.size + 1 < _; omega) _).low (by omega)
      · have HW := Lib.hid (show weighedL u v x L = restL u v L from if_neg hx)
        go_wp2
        refine bodyPost_ret (v := .agg #[.int .i64 N, .slice AQ (restL u v L).length cq]) (by simp [results, Try.results82, go_sem, h10, h11, f10, f11]) rfl ?_
        refine ⟨_, rfl, ?_, Bl.set_ (Bl.set_ hbw (by show w.heap.size ≤ w.heap.size + 1; omega) _) (by show w.heap.size ≤ w.heap.size + 1; omega) _⟩
        rw [HW.out]
        exact (OwnA.set_ (OwnA.set_ O.out (by show w.heap.size + 1 < _; omega) _) (by show w.heap.size + 1 < _; omega) _).low (by omega)

end Go.Proofs.Ytelgjfflhcmljaa
