/-
  What is proved here: impl.turned and impl.Reversed turn the arcs of a right graph and sort them. No conditions beyond those that each theorem states.
-/
import Derived.Test.YtmdmbobjdhjadaaTW
import Derived.Test.YtmdmbobjdhjadaaS1
set_option linter.unusedSimpArgs false
set_option linter.unusedVariables false
namespace Go.Proofs.Ytmdmbobjdhjadaa
open Go.RowKit

set_option maxRecDepth 100000 in
set_option maxHeartbeats 4000000 in
theorem implTurned_any (N : Int) (A : Option Addr) (n c : Nat) (L : List Arc3) (hn : n = L.length) (w : World) (hm : n ≤ 1048576) (hs : L.Pairwise AheadP) (H1 : ArcsAt w w.heap.size A L) :
    Calls Try.prog 99 #[.agg #[.int .i64 N, .slice A n c]] w (GraphMade1 N (revL L) w) := by
  obtain ⟨i0, hi, hz0, hz1, hz2⟩ := info_parts infoArc
  have I0 := Lib.hid hi
  have I1 := Lib.hid hz0
  have I2 := Lib.hid hz1
  have I3 := Lib.hid hz2
  have K1 := Lib.hid H1
  have HN := Lib.hid hn
  have HP := Lib.hid hs
  clear H1 hn hi hz0 hz1 hz2 hs
  go_enter Try.func99, Try.ntmps99
  have T0 := Lib.hid (show TS w (.cells #[.int .i64 N, .slice A n c] 42) (w.heap.size + 1) (w.heap.size + 1 + 1) N (.slice none 0 0) [] (((w.alloc (.cells #[.int .i64 N, .slice A n c] 42)).alloc (.cells #[.int .i64 0, .slice none 0 0] 42)).alloc (.cells #[.int .i64 N, .slice none 0 0] 42)) from by
    refine ⟨?_, ?_, OwnA.nil_ _ _, ?_, by omega, by omega⟩
    · have := Two.new ((w.alloc (.cells #[.int .i64 N, .slice A n c] 42)).alloc (.cells #[.int .i64 0, .slice none 0 0] 42)) (.int .i64 N) (.slice none 0 0)
      simpa only [World.size_alloc] using this
    · have := (Two.new (w.alloc (.cells #[.int .i64 N, .slice A n c] 42)) (.int .i64 0) (.slice none 0 0)).bl (Bl.alloc_ (Bl.refl _) (.cells #[.int .i64 N, .slice none 0 0] 42))
      simpa only [World.size_alloc] using this
    · exact ((Bl.refl _).alloc_ _).alloc_ _)
  obtain ⟨y0, y1⟩ := box2 T0.out.bl
  go_wp2_with fail
  clear y0 y1
  go_loopw [12] (fun i wr => ∃ (k : Nat) (q : Value), k ≤ n ∧ i = .int .i64 k ∧ TS w (.cells #[.int .i64 N, .slice A n c] 42) (w.heap.size + 1) (w.heap.size + 1 + 1) N q (turnK L k) wr) (fun i _ => n - (intOf i).toNat)
  case atStart => exact ⟨0, _, by omega, rfl, T0.out⟩
  case round =>
    obtain ⟨k, q, hk, rfl, hT⟩ := hrel
    obtain ⟨c0, c1, f0, f1⟩ := hT.box.facts
    obtain ⟨AQ, cq, rfl, hAQ, -⟩ := hT.own.shape
    have T := Lib.hid hT
    have hbw : Bl w wr := (Bl.alloc_ (Bl.refl w) _).trans_ hT.bl
    have hlt' := World.rowIs.lt hT.box
    clear hT hAQ T0
    by_cases hlt : k < n
    · have hkl : k < L.length := by have := HN.out; omega
      obtain ⟨g1, o1, rfl, hg1, hc1⟩ := K1.out (by omega)
      obtain ⟨p1, p2, p3⟩ := hc1 k hkl
      clear hc1
      rw [← (bcell hbw).1 _ _ hg1] at p1 p2 p3
      have TK := Lib.hid (turnK_succ hkl)
      have hlen := turnK_len L k
      generalize hx : L[k].1 = x at p1
      generalize hy : L[k].2.1 = y at p2
      generalize hz : L[k].2.2 = z at p3
      have HE := Lib.hid (show turnA L[k] = (y, x, z) from by unfold turnA; rw [hx, hy, hz])
      clear hx hy hz hbw
      obtain ⟨l, hl⟩ : ∃ l, l = (turnK L k).length := ⟨_, rfl⟩
      rw [← hl] at hlen c1 T
      have HL := Lib.hid hl
      clear hl
      have u1 : (0 : Int) ≤ (k : Int) := by omega
      have u2 : (k : Int) < (n : Int) := by omega
      have T2 := Lib.hid (T.out.bl_ (show Bl wr ((wr.alloc (.cells #[.int .i64 x, .int .i64 y, .int .i64 z] 130)).alloc (.cells #[.int .i64 y, .int .i64 x, .int .i64 z] 130)) from (by repeat' (first | exact Bl.refl _ | with_reducible assumption | with_reducible refine Bl.drew_ ?_ | with_reducible refine Bl.drewN_ ?_ _ | with_reducible refine Bl.alloc_ ?_ _ | with_reducible refine Bl.trans_ ?_ (by assumption) | with_reducible refine Bl.trans_ ?_ (And.left (by assumption))))))
      go_wp2_with (at_builtin; refine wpList_append_own _ rfl (.tmp 17) (.tmp 25) _ rfl ((w.heap.size + 1 + 1) + 1) 130 i0 _ 3 24 Try.underlying40 I0.out I1.out I2.out I3.out rfl (by decide) _ l (cs3 (turnK L k)) rfl ?c0 ⟨wr.heap.size + 1, 0, none⟩ 1 1 [.int .i64 y, .int .i64 x, .int .i64 z] rfl rfl ?c1 (one3 _ _ _) ?c3 ?c4 ?c5 ?_)
      case c0 => have := T2.out.own; rw [HL.out] at this ⊢; exact this
      case c1 => have := new3 (wr.alloc (.cells #[.int .i64 x, .int .i64 y, .int .i64 z] 130)) (.int .i64 y) (.int .i64 x) (.int .i64 z) 130; simpa using this
      case c3 => unfold maxLen; omega
      case c4 => omega
      case c5 => simp; omega
      intro v2 w2 hown2 hg2 _
      have O2 := Lib.hid (show OwnA w2 ((w.heap.size + 1 + 1) + 1) v2 (turnK L (k + 1)) from by
        rw [TK.out, HE.out]
        exact own_snoc (a := (y, x, z)) (by rw [← HL.out]; exact hown2))
      have G2 := Lib.hid hg2
      clear hown2 hg2
      have U := Lib.hid (T2.out.app G2.out O2.out)
      obtain ⟨b0, -, -⟩ := T2.out.grown_ G2.out O2.out
      obtain ⟨A2, c2, rfl, -, -⟩ := O2.out.shape
      obtain ⟨d0, d1, k0, k1⟩ := b0.facts
      clear b0 c0 c1 f0 f1
      go_wp2
      go_roundw
      case rel => exact ⟨k + 1, _, by omega, by go_num, U.out⟩
      case measure => simp [intOf]; omega
    · obtain rfl : k = n := by omega
      have TA := Lib.hid (show turnK L k = L.map turnA from by rw [HN.out]; exact turnK_all L)
      have hlen := turnK_len L k
      go_wp2_with fail
      refine (sort_arcs L (turnK L k) HP.out TA.out ((w.heap.size + 1 + 1) + 1) _ _ (by omega) T.out.own).mono ?_
      rintro e w2 ⟨rfl, ho, hg⟩
      have U := Lib.hid (T.out.same hg ho)
      clear ho hg c0 c1 f0 f1
      obtain ⟨c0, c1, f0, f1⟩ := U.out.box.facts
      obtain ⟨r0, r1, fr0, fr1⟩ := U.out.res.facts
      go_wp2
      refine bodyPost_ret (v := .agg #[.int .i64 N, .slice AQ (turnK L k).length cq]) (by simp [results, Try.results99, go_sem, r0, r1, fr0, fr1]) rfl ?_
      have := U.out.fin (.int .i64 N) (.slice AQ (turnK L k).length cq)
      exact ⟨_, rfl, this.1, this.2⟩

set_option maxHeartbeats 1000000 in
theorem implReversed_any (N : Int) (A : Option Addr) (n c : Nat) (L : List Arc3) (hn : n = L.length) (w : World) (hm : n ≤ 1048576) (H1 : ArcsAt w w.heap.size A L) :
    Calls Try.prog 52 #[.agg #[.int .i64 N, .slice A n c]] w (GraphMade1 (revN N L) (revG N L) w) := by
  have K1 := Lib.hid H1
  have HN := Lib.hid hn
  clear H1 hn
  cases ho : okB N L with
  | false =>
    have HO := Lib.hid ho
    clear ho
    go_enter Try.func52, Try.ntmps52
    go_wp2_with fail
    refine (implOk_any N A n c L HN.out _ (by omega) (K1.out.bl (by repeat' (first | exact Bl.refl _ | with_reducible assumption | with_reducible refine Bl.drew_ ?_ | with_reducible refine Bl.drewN_ ?_ _ | with_reducible refine Bl.alloc_ ?_ _ | with_reducible refine Bl.trans_ ?_ (by assumption) | with_reducible refine Bl.trans_ ?_ (And.left (by assumption)))))).mono ?_
    rintro e w1 ⟨rfl, hb1⟩
    rw [HO.out]
    obtain ⟨h00, h01, h10, h11, f10, f11, hsz⟩ := box22 hb1
    go_wp2
    refine bodyPost_ret (v := .agg #[.int .i64 0, .slice none 0 0]) (by simp [results, Try.results52, go_sem, h10, h11, f10, f11]) rfl ?_
    refine ⟨.slice none 0 0, by unfold revN; rw [HO.out]; rfl, by unfold revG; rw [HO.out, if_neg (by simp)]; exact OwnA.nil_ _ _, ?_⟩
    exact Bl.set_ (Bl.set_ ((Bl.alloc_ (Bl.alloc_ (Bl.refl w) _) _).trans_ hb1) (Nat.le_succ _) _) (Nat.le_succ _) _
  | true =>
    have HO := Lib.hid ho
    have HP := Lib.hid (okB_elim ho).2.2.2.2
    clear ho
    go_enter Try.func52, Try.ntmps52
    go_wp2_with fail
    refine (implOk_any N A n c L HN.out _ (by omega) (K1.out.bl (by repeat' (first | exact Bl.refl _ | with_reducible assumption | with_reducible refine Bl.drew_ ?_ | with_reducible refine Bl.drewN_ ?_ _ | with_reducible refine Bl.alloc_ ?_ _ | with_reducible refine Bl.trans_ ?_ (by assumption) | with_reducible refine Bl.trans_ ?_ (And.left (by assumption)))))).mono ?_
    rintro e w1 ⟨rfl, hb1⟩
    rw [HO.out]
    obtain ⟨h00, h01, h10, h11, f10, f11, hsz⟩ := box22 hb1
    have BW := Lib.hid (show Bl w w1 from (Bl.alloc_ (Bl.alloc_ (Bl.refl w) _) _).trans_ hb1)
    have B1 := Lib.hid hb1
    clear h10 h11 f10 f11
    go_wp2_with fail
    refine (implTurned_any N A n c L HN.out _ hm HP.out (K1.out.bl BW.out)).mono ?_
    rintro e w2 ⟨q, rfl, hq, hb2⟩
    obtain ⟨Aq, cq, rfl, -⟩ := hq.shape
    have Q := Lib.hid hq
    have B2 := Lib.hid hb2
    obtain ⟨g00, g01, g10, g11, k10, k11, gsz⟩ := box22 (B1.out.trans_ hb2)
    clear hq hb2 h00 h01 g00 g01 hb1
    go_wp2
    refine bodyPost_ret (v := .agg #[.int .i64 N, .slice Aq (revL L).length cq]) (by simp [results, Try.results52, go_sem, g10, g11, k10, k11]) rfl ?_
    have hne : ∀ g, (Value.slice Aq (revL L).length cq).ownBlock = some g → g ≠ w.heap.size + 1 := fun g hg => by have := (Owns.lt Q.out g hg).1; omega
    refine ⟨_, by unfold revN; rw [HO.out]; rfl, ?_, ?_⟩
    · unfold revG
      rw [HO.out, if_pos rfl]
      exact OwnA.low (Owns.setOther (Owns.setOther Q.out (p := ⟨w.heap.size + 1, 0, none⟩) hne _) (p := ⟨w.heap.size + 1, 1, none⟩) hne _) (by have := BW.out.size; omega)
    · exact Bl.set_ (Bl.set_ (BW.out.trans_ B2.out) (Nat.le_succ _) _) (Nat.le_succ _) _

end Go.Proofs.Ytmdmbobjdhjadaa
