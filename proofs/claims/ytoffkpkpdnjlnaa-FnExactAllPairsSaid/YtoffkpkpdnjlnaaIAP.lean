/-
  What is proved here: AllPairs of the code and of the model. No conditions beyond those that each theorem states.
-/
import Derived.Test.YtoffkpkpdnjlnaaWG
set_option linter.unusedSimpArgs false
set_option linter.unusedVariables false
namespace Go.Proofs.Ytoffkpkpdnjlnaa
open Go.RowKit

/-- A new list of new lists of numbers is left. -/
def RowsMade (R : List (List Int)) (w : World) (e : Ending) (w' : World) : Prop := ∃ v G, e = .returned v ∧ RowsG w' w.heap.size v G R ∧ Bl w w'
/-- How far all nodes are from each. -/
def allR (N : Int) (L : List Arc3) : List (List Int) := if okB N L = true then rowsK N.toNat L N.toNat else []
theorem sumL_bound {m : Nat} : ∀ {R : List (List Int)}, (∀ r ∈ R, r.length ≤ m) → sumL R ≤ R.length * m
  | [], _ => by simp [sumL]
  | r :: R, h => by
    have h1 := h r (by simp)
    have h2 := sumL_bound (R := R) (fun x hx => h x (by simp [hx]))
    simp only [sumL, List.length_cons, Nat.add_mul]
    omega
theorem allR_small (N : Int) (L : List Arc3) : (allR N L).length ≤ 24 ∧ (∀ r ∈ allR N L, r.length ≤ 24) ∧ sumL (allR N L) ≤ 1048576 := by
  have h : (allR N L).length ≤ 24 ∧ (∀ r ∈ allR N L, r.length ≤ 24) := by
    unfold allR
    split
    · rename_i ho
      have h1 := (okB_elim ho).1
      have h2 := (okB_elim ho).2.1
      refine ⟨by rw [rowsK_len]; omega, fun r hr => ?_⟩
      unfold rowsK at hr
      obtain ⟨j, hj, rfl⟩ := List.mem_map.1 hr
      rw [List.mem_range] at hj
      have e : ((N.toNat : Nat) : Int) = N := by omega
      rw [e, distL_len ho (by omega) (by omega)]
      omega
    · simp
  refine ⟨h.1, h.2, ?_⟩
  have h1 := sumL_bound h.2
  have h2 := Nat.mul_le_mul_right 24 h.1
  omega
theorem allR_no {N : Int} {L : List Arc3} (h : okB N L = false) : allR N L = [] := if_neg (by rw [h]; simp)
theorem allR_yes {q : Nat} {L : List Arc3} (h : okB (q : Int) L = true) : allR q L = rowsK q L q := by unfold allR; rw [if_pos h]; rfl

set_option maxRecDepth 100000 in
set_option maxHeartbeats 4000000 in
theorem l8All_any (q : Nat) (A : Option Addr) (n c : Nat) (L : List Arc3) (hn : n = L.length) (ho : okB (q : Int) L = true) (w : World) (hm : n ≤ 1048576) (H1 : ArcsAt w w.heap.size A L) :
    Calls Try.prog 90 #[.agg #[.int .i64 (q : Int), .slice A n c]] w (RowsMade (rowsK q L q) w) := by
  obtain ⟨i0, hi, hz0, hz1, hz2⟩ := info_parts infoRow
  have I0 := Lib.hid hi
  have I1 := Lib.hid hz0
  have I2 := Lib.hid hz1
  have I3 := Lib.hid hz2
  have K1 := Lib.hid H1
  have HN := Lib.hid hn
  have HO := Lib.hid ho
  have hN1 := (okB_elim ho).1
  have hN24 := (okB_elim ho).2.1
  clear H1 hn ho hi hz0 hz1 hz2
  go_enter Try.func90, Try.ntmps90
  go_wp2_with fail
  go_loopw [3, 4] (fun pv i wr => ∃ (k : Nat) (G : List SlH), k ≤ q ∧ i = .int .i64 k ∧ RowsG wr (w.heap.size + 1) pv G (rowsK q L k) ∧ Bl (w.alloc (.cells #[.int .i64 (q : Int), .slice A n c] 33)) wr) (fun _ i _ => q - (intOf i).toNat)
  case atStart =>
    refine ⟨0, [], by omega, rfl, RowsG.nil_ _ _ ?_, Bl.alloc_ (Bl.refl _) _⟩
    have h := World.ownsRow_made (base := w.heap.size + 1) (e := 96) (size := 1) (w.alloc (.cells #[.int .i64 (q : Int), .slice A n c] 33)) #[] 0 (by simp) (by unfold maxLen; omega) rfl
    rw [World.size_alloc] at h
    exact h
  case round =>
    obtain ⟨k, G, hk, rfl, hrows, hbl⟩ := hrel
    have RR := Lib.hid hrows
    have BB := Lib.hid hbl
    obtain ⟨q0, q1⟩ := box2 hbl
    have hsz : w.heap.size < wr.heap.size := by have := hbl.size; simp at this; omega
    clear hrows hbl
    by_cases hlt : k < q
    · have hk0 : (0 : Int) ≤ (k : Int) := by omega
      have hk1 : (k : Int) < (q : Int) := by omega
      go_wp2_with fail
      refine (l3Dist_any q k A n c L HN.out HO.out hk0 hk1 _ hm (K1.out.bl (((Bl.alloc_ (Bl.refl w) _).trans_ BB.out).trans_ (by repeat' (first | exact Bl.refl _ | with_reducible assumption | with_reducible refine Bl.drew_ ?_ | with_reducible refine Bl.drewN_ ?_ _ | with_reducible refine Bl.alloc_ ?_ _ | with_reducible refine Bl.trans_ ?_ (by assumption) | with_reducible refine Bl.trans_ ?_ (And.left (by assumption))))))).mono ?_
      rintro e w4 ⟨v4, rfl, hv4, hb4⟩
      have hl : (distL q L k).length = q := by rw [distL_len HO.out hk0 hk1]; simp
      have V4 := Lib.hid hv4
      obtain ⟨A5, c5, rfl, hc5, hi5, -, hl5⟩ := OwnN.shape hv4
      have R4 := Lib.hid (RR.out.bl (show Bl wr w4 from (by repeat' (first | exact Bl.refl _ | with_reducible assumption | with_reducible refine Bl.drew_ ?_ | with_reducible refine Bl.drewN_ ?_ _ | with_reducible refine Bl.alloc_ ?_ _ | with_reducible refine Bl.trans_ ?_ (by assumption) | with_reducible refine Bl.trans_ ?_ (And.left (by assumption))))))
      have GL := Lib.hid (show G.length = k from by rw [RR.out.len, rowsK_len])
      have OC := Lib.hid (show Owns 96 1 w4 (w.heap.size + 1) u3 k (G.map slV) from by rw [← GL.out]; exact R4.out.own)
      have HL5 := Lib.hid hl5
      have B4 := Lib.hid (show Bl wr w4 from (by repeat' (first | exact Bl.refl _ | with_reducible assumption | with_reducible refine Bl.drew_ ?_ | with_reducible refine Bl.drewN_ ?_ _ | with_reducible refine Bl.alloc_ ?_ _ | with_reducible refine Bl.trans_ ?_ (by assumption) | with_reducible refine Bl.trans_ ?_ (And.left (by assumption)))))
      rw [hl] at V4 ⊢
      have HLL := Lib.hid hl
      have s4 := B4.out.size
      clear hv4 hi5 hl5 hl hb4 q0 q1
      go_wp2_with (at_builtin; refine wpList_append_any _ rfl (.tmp 12) (.tmp 17) _ rfl (w.heap.size + 1) 96 i0 _ 1 24 Try.underlying45 I0.out I1.out I2.out I3.out rfl (by decide) _ k (G.map slV) rfl (World.ownsRow.alloc OC.out _) (w4.heap.size + 1) (some ⟨w4.heap.size, 0, none⟩) 1 1 [.slice A5 q c5] rfl ?c0 (by simp [Value.oneCell']) ?c3 ?c4 ?c5 ?_)
      case c0 =>
        refine ⟨rfl, fun _ => ⟨_, rfl, by show w4.heap.size < w4.heap.size + 1; omega, fun x u hj => ?_⟩⟩
        match x, hj with
        | 0, hj => simp at hj; subst hj; simp [Addr.add, go_sem]
        | (x + 1), hj => simp at hj
      case c3 => unfold maxLen; omega
      case c4 => omega
      case c5 => simp; omega
      intro v' w8 hown' hgrow hwh
      have BA : Bl w4 (w4.alloc (.cells #[.slice A5 q c5] 96)) := Bl.alloc_ (Bl.refl _) _
      have hOwnlt := Owns.lt OC.out
      have R8 := Lib.hid (RowsG.snoc (R := rowsK q L k) (r := distL q L k) (x := (A5, q, c5)) (k := k) (R4.out.bl BA) ((V4.out.low (by first | omega | (simp; omega))).bl BA)
        (fun g hg => by
          rw [slV_own] at hg
          have h1 := (HL5.out g hg).1
          refine ⟨fun h => ?_, fun j hj h => ?_⟩
          · have h2 := Owns.lt RR.out.own g h
            try simp at h1
            omega
          · have h2 := RR.out.lt hj h
            try simp at h1
            omega) GL.out.symm hown' hgrow (by simpa using hwh))
      rw [← rowsK_succ] at R8
      have B8 := Lib.hid (show Bl (w.alloc (.cells #[.int .i64 (q : Int), .slice A n c] 33)) w8 from ((BB.out.trans_ B4.out).trans_ BA).grown_ hgrow (fun g hg => by have := hOwnlt g hg; simp; omega))
      clear hown' hgrow hwh BA hOwnlt
      go_wp2
      go_roundw
      case rel => exact ⟨k + 1, _, by omega, by go_num, R8.out, B8.out⟩
      case measure => simp [intOf]; omega
    · obtain rfl : k = q := by omega
      go_wp2
      go_ret
      exact ⟨_, G, rfl, RR.out.low (by omega), (Bl.alloc_ (Bl.refl w) _).trans_ BB.out⟩

set_option maxRecDepth 100000 in
set_option maxHeartbeats 1000000 in
theorem specAllPairs_any (N : Int) (A : Option Addr) (n c : Nat) (L : List Arc3) (hn : n = L.length) (w : World) (hm : n ≤ 1048576) (H1 : ArcsAt w w.heap.size A L) :
    Calls Try.prog 40 #[.agg #[.int .i64 N, .slice A n c]] w (RowsMade (allR N L) w) := by
  have K1 := Lib.hid H1
  have HN := Lib.hid hn
  clear H1 hn
  cases ho : okB N L with
  | false =>
    have HO := Lib.hid ho
    clear ho
    go_enter Try.func40, Try.ntmps40
    go_wp2_with fail
    refine (specOk_any N A n c L HN.out _ (by omega) (K1.out.bl (by repeat' (first | exact Bl.refl _ | with_reducible assumption | with_reducible refine Bl.drew_ ?_ | with_reducible refine Bl.drewN_ ?_ _ | with_reducible refine Bl.alloc_ ?_ _ | with_reducible refine Bl.trans_ ?_ (by assumption) | with_reducible refine Bl.trans_ ?_ (And.left (by assumption)))))).mono ?_
    rintro e w1 ⟨rfl, hb1⟩
    rw [HO.out]
    go_wp2
    go_ret
    refine ⟨_, [], rfl, ?_, (by repeat' (first | exact Bl.refl _ | with_reducible assumption | with_reducible refine Bl.drew_ ?_ | with_reducible refine Bl.drewN_ ?_ _ | with_reducible refine Bl.alloc_ ?_ _ | with_reducible refine Bl.trans_ ?_ (by assumption) | with_reducible refine Bl.trans_ ?_ (And.left (by assumption))))⟩
    rw [allR_no HO.out]
    exact RowsG.nil_ _ _ (World.ownsRow_made (base := w.heap.size) (e := 96) (size := 1) w1 #[] 0 (by have := hb1.size; simp at this; omega) (by unfold maxLen; omega) rfl)
  | true =>
    have HO := Lib.hid ho
    have hN1 := (okB_elim ho).1
    clear ho
    obtain ⟨q, rfl⟩ : ∃ q : Nat, N = q := ⟨N.toNat, by omega⟩
    go_enter Try.func40, Try.ntmps40
    go_wp2_with fail
    refine (specOk_any q A n c L HN.out _ (by omega) (K1.out.bl (by repeat' (first | exact Bl.refl _ | with_reducible assumption | with_reducible refine Bl.drew_ ?_ | with_reducible refine Bl.drewN_ ?_ _ | with_reducible refine Bl.alloc_ ?_ _ | with_reducible refine Bl.trans_ ?_ (by assumption) | with_reducible refine Bl.trans_ ?_ (And.left (by assumption)))))).mono ?_
    rintro e w1 ⟨rfl, hb1⟩
    rw [HO.out]
    obtain ⟨q0, q1⟩ := box2 hb1
    have hbw : Bl w w1 := (Bl.alloc_ (Bl.refl w) _).trans_ hb1
    go_wp2_with fail
    refine (l8All_any q A n c L HN.out HO.out _ hm (K1.out.bl hbw)).mono ?_
    rintro e w2 ⟨v, G, rfl, hv, hb2⟩
    have V := Lib.hid hv
    have s1 := hbw.size
    clear hv
    go_wp2
    go_ret
    exact ⟨_, G, rfl, by rw [allR_yes HO.out]; exact V.out.low s1, hbw.trans_ hb2⟩

set_option maxRecDepth 100000 in
set_option maxHeartbeats 4000000 in
theorem implAllPairs_any (N : Int) (A : Option Addr) (n c : Nat) (L : List Arc3) (hn : n = L.length) (hc : n ≤ c) (w : World) (hm : n ≤ 1048576) (H1 : ArcsAt w w.heap.size A L) :
    Calls Try.prog 41 #[.agg #[.int .i64 N, .slice A n c]] w (RowsMade (allR N L) w) := by
  obtain ⟨i0, hi, hz0, hz1, hz2⟩ := info_parts infoRow
  have I0 := Lib.hid hi
  have I1 := Lib.hid hz0
  have I2 := Lib.hid hz1
  have I3 := Lib.hid hz2
  have K1 := Lib.hid H1
  have HN := Lib.hid hn
  clear H1 hn hi hz0 hz1 hz2
  cases ho : okB N L with
  | false =>
    have HO := Lib.hid ho
    clear ho
    go_enter Try.func41, Try.ntmps41
    go_wp2_with fail
    refine (implOk_any N A n c L HN.out _ (by omega) (K1.out.bl (by repeat' (first | exact Bl.refl _ | with_reducible assumption | with_reducible refine Bl.drew_ ?_ | with_reducible refine Bl.drewN_ ?_ _ | with_reducible refine Bl.alloc_ ?_ _ | with_reducible refine Bl.trans_ ?_ (by assumption) | with_reducible refine Bl.trans_ ?_ (And.left (by assumption)))))).mono ?_
    rintro e w1 ⟨rfl, hb1⟩
    rw [HO.out]
    go_wp2
    go_ret
    exact ⟨_, [], rfl, by rw [allR_no HO.out]; exact RowsG.nil_ _ _ (Owns.nil_ _ _ _ _), (by repeat' (first | exact Bl.refl _ | with_reducible assumption | with_reducible refine Bl.drew_ ?_ | with_reducible refine Bl.drewN_ ?_ _ | with_reducible refine Bl.alloc_ ?_ _ | with_reducible refine Bl.trans_ ?_ (by assumption) | with_reducible refine Bl.trans_ ?_ (And.left (by assumption))))⟩
  | true =>
    have HO := Lib.hid ho
    have hN1 := (okB_elim ho).1
    have hN24 := (okB_elim ho).2.1
    clear ho
    obtain ⟨q, rfl⟩ : ∃ q : Nat, N = q := ⟨N.toNat, by omega⟩
    go_enter Try.func41, Try.ntmps41
    go_wp2_with fail
    refine (implOk_any q A n c L HN.out _ (by omega) (K1.out.bl (by repeat' (first | exact Bl.refl _ | with_reducible assumption | with_reducible refine Bl.drew_ ?_ | with_reducible refine Bl.drewN_ ?_ _ | with_reducible refine Bl.alloc_ ?_ _ | with_reducible refine Bl.trans_ ?_ (by assumption) | with_reducible refine Bl.trans_ ?_ (And.left (by assumption)))))).mono ?_
    rintro e w1 ⟨rfl, hb1⟩
    rw [HO.out]
    obtain ⟨q0, q1⟩ := box2 hb1
    go_wp2_with fail
    clear q0 q1
    go_loopw [3, 10] (fun pv i wr => ∃ (k : Nat) (G : List SlH), k ≤ q ∧ i = .int .i64 k ∧ RowsG wr (w.heap.size + 1) pv G (rowsK q L k) ∧ Bl (w.alloc (.cells #[.int .i64 (q : Int), .slice A n c] 33)) wr) (fun _ i _ => q - (intOf i).toNat)
    case atStart => exact ⟨0, [], by omega, rfl, RowsG.nil_ _ _ (Owns.nil_ _ _ _ _), hb1⟩
    case round =>
      obtain ⟨k, G, hk, rfl, hrows, hbl⟩ := hrel
      have RR := Lib.hid hrows
      have BB := Lib.hid hbl
      obtain ⟨q0, q1⟩ := box2 hbl
      have hsz : w.heap.size < wr.heap.size := by have := hbl.size; simp at this; omega
      clear hrows hbl
      by_cases hlt : k < q
      · have hk0 : (0 : Int) ≤ (k : Int) := by omega
        have hk1 : (k : Int) < (q : Int) := by omega
        go_wp2_with fail
        refine (implDistFrom_any q k A n c L HN.out hc _ hm (K1.out.bl (((Bl.alloc_ (Bl.refl w) _).trans_ BB.out).trans_ (by repeat' (first | exact Bl.refl _ | with_reducible assumption | with_reducible refine Bl.drew_ ?_ | with_reducible refine Bl.drewN_ ?_ _ | with_reducible refine Bl.alloc_ ?_ _ | with_reducible refine Bl.trans_ ?_ (by assumption) | with_reducible refine Bl.trans_ ?_ (And.left (by assumption))))))).mono ?_
        rintro e w4 ⟨v4, rfl, hv4, hb4⟩
        have ed : distFromL q L k = distL q L k := by unfold distFromL; rw [if_pos (by unfold has1; rw [HO.out]; simp; omega)]
        rw [ed] at hv4
        have hl : (distL q L k).length = q := by rw [distL_len HO.out hk0 hk1]; simp
        have V4 := Lib.hid hv4
        obtain ⟨A5, c5, rfl, hc5, hi5, -, hl5⟩ := OwnN.shape hv4
        have R4 := Lib.hid (RR.out.bl (show Bl wr w4 from (by repeat' (first | exact Bl.refl _ | with_reducible assumption | with_reducible refine Bl.drew_ ?_ | with_reducible refine Bl.drewN_ ?_ _ | with_reducible refine Bl.alloc_ ?_ _ | with_reducible refine Bl.trans_ ?_ (by assumption) | with_reducible refine Bl.trans_ ?_ (And.left (by assumption))))))
        have GL := Lib.hid (show G.length = k from by rw [RR.out.len, rowsK_len])
        have OC := Lib.hid (show Owns 96 1 w4 (w.heap.size + 1) u3 k (G.map slV) from by rw [← GL.out]; exact R4.out.own)
        have HL5 := Lib.hid hl5
        have B4 := Lib.hid (show Bl wr w4 from (by repeat' (first | exact Bl.refl _ | with_reducible assumption | with_reducible refine Bl.drew_ ?_ | with_reducible refine Bl.drewN_ ?_ _ | with_reducible refine Bl.alloc_ ?_ _ | with_reducible refine Bl.trans_ ?_ (by assumption) | with_reducible refine Bl.trans_ ?_ (And.left (by assumption)))))
        rw [hl] at V4 ⊢
        have HLL := Lib.hid hl
        have s4 := B4.out.size
        clear hv4 hi5 hl5 hl hb4 q0 q1 ed
        go_wp2_with (at_builtin; refine wpList_append_any _ rfl (.tmp 13) (.tmp 18) _ rfl (w.heap.size + 1) 96 i0 _ 1 24 Try.underlying45 I0.out I1.out I2.out I3.out rfl (by decide) _ k (G.map slV) rfl (World.ownsRow.alloc OC.out _) (w4.heap.size + 1) (some ⟨w4.heap.size, 0, none⟩) 1 1 [.slice A5 q c5] rfl ?c0 (by simp [Value.oneCell']) ?c3 ?c4 ?c5 ?_)
        case c0 =>
          refine ⟨rfl, fun _ => ⟨_, rfl, by show w4.heap.size < w4.heap.size + 1; omega, fun x u hj => ?_⟩⟩
          match x, hj with
          | 0, hj => simp at hj; subst hj; simp [Addr.add, go_sem]
          | (x + 1), hj => simp at hj
        case c3 => unfold maxLen; omega
        case c4 => omega
        case c5 => simp; omega
        intro v' w8 hown' hgrow hwh
        have BA : Bl w4 (w4.alloc (.cells #[.slice A5 q c5] 96)) := Bl.alloc_ (Bl.refl _) _
        have hOwnlt := Owns.lt OC.out
        have R8 := Lib.hid (RowsG.snoc (R := rowsK q L k) (r := distL q L k) (x := (A5, q, c5)) (k := k) (R4.out.bl BA) ((V4.out.low (by first | omega | (simp; omega))).bl BA)
          (fun g hg => by
            rw [slV_own] at hg
            have h1 := (HL5.out g hg).1
            refine ⟨fun h => ?_, fun j hj h => ?_⟩
            · have h2 := Owns.lt RR.out.own g h
              try simp at h1
              omega
            · have h2 := RR.out.lt hj h
              try simp at h1
              omega) GL.out.symm hown' hgrow (by simpa using hwh))
        rw [← rowsK_succ] at R8
        have B8 := Lib.hid (show Bl (w.alloc (.cells #[.int .i64 (q : Int), .slice A n c] 33)) w8 from ((BB.out.trans_ B4.out).trans_ BA).grown_ hgrow (fun g hg => by have := hOwnlt g hg; simp; omega))
        clear hown' hgrow hwh BA hOwnlt
        go_wp2
        go_roundw
        case rel => exact ⟨k + 1, _, by omega, by go_num, R8.out, B8.out⟩
        case measure => simp [intOf]; omega
      · obtain rfl : k = q := by omega
        go_wp2
        go_ret
        exact ⟨_, G, rfl, by rw [allR_yes HO.out]; exact RR.out.low (by omega), (Bl.alloc_ (Bl.refl w) _).trans_ BB.out⟩

end Go.Proofs.Ytoffkpkpdnjlnaa
