/-
  What is proved here: PartsOf of the model tells of each node the least of its part. No conditions beyond those that each theorem states.
-/
import Derived.Test.YtelgjfflhcmljaaZG
set_option linter.unusedSimpArgs false
set_option linter.unusedVariables false
namespace Go.Proofs.Ytelgjfflhcmljaa
open Go.RowKit

/-- What the model tells of the first k nodes. -/
def partS (q : Nat) (L : List Arc3) (k : Nat) : List Int := (List.range k).map fun v => firI q L q v
theorem partS_len (q : Nat) (L : List Arc3) (k : Nat) : (partS q L k).length = k := by simp [partS]
theorem partS_succ (q : Nat) (L : List Arc3) (k : Nat) : partS q L (k + 1) = partS q L k ++ [firI q L q k] := by
  unfold partS
  rw [List.range_succ, List.map_append]
  rfl

set_option maxRecDepth 100000 in
set_option maxHeartbeats 8000000 in
theorem l11Parts_any (q : Nat) (A : Option Addr) (n c : Nat) (L : List Arc3) (hn : n = L.length) (ho : okB (q : Int) L = true) (w : World) (hm : n ≤ 1048576) (H1 : ArcsAt w w.heap.size A L) :
    Calls Try.prog 101 #[.agg #[.int .i64 (q : Int), .slice A n c]] w (NumsMade (partK q L q) w) := by
  obtain ⟨i0, hi, hz0, hz1, hz2⟩ := info_parts infoInt
  have I0 := Lib.hid hi
  have I1 := Lib.hid hz0
  have I2 := Lib.hid hz1
  have I3 := Lib.hid hz2
  have K1 := Lib.hid H1
  have HN := Lib.hid hn
  have HO := Lib.hid ho
  have hN24 := (okB_elim ho).2.1
  have hq24 : q ≤ 24 := by omega
  have HSR := Lib.hid (revL_len (okB_elim ho).2.2.2.2)
  clear H1 hn ho hi hz0 hz1 hz2
  go_enter Try.func101, Try.ntmps101
  go_wp2_with fail
  go_loopw [3, 4] (fun v i wr => ∃ k : Nat, k ≤ q ∧ i = .int .i64 k ∧ OwnN wr (w.heap.size + 1) v (partS q L k) ∧ Bl (w.alloc (.cells #[.int .i64 (q : Int), .slice A n c] 29)) wr) (fun _ i _ => q - (intOf i).toNat)
  case atStart =>
    refine ⟨0, by omega, rfl, ?_, (by repeat' (first | exact Bl.refl _ | with_reducible assumption | with_reducible refine Bl.drew_ ?_ | with_reducible refine Bl.drewN_ ?_ _ | with_reducible refine Bl.alloc_ ?_ _ | with_reducible refine Bl.trans_ ?_ (by assumption) | with_reducible refine Bl.trans_ ?_ (And.left (by assumption))))⟩
    have h := World.ownsRow_made (base := w.heap.size + 1) (e := 2) (size := 1) (w.alloc (.cells #[.int .i64 (q : Int), .slice A n c] 29)) #[] 0 (by simp) (by unfold maxLen; omega) rfl
    rw [World.size_alloc] at h
    exact h
  case round =>
    obtain ⟨wo, rfl⟩ : ∃ wo : World, wo = wr := ⟨_, rfl⟩
    obtain ⟨k, hk, rfl, hO, hbl⟩ := hrel
    have OO := Lib.hid hO
    have BB := Lib.hid hbl
    have BW := Lib.hid (show Bl w wo from (Bl.alloc_ (Bl.refl w) _).trans_ hbl)
    have hsz := hbl.size
    simp only [World.size_alloc] at hsz
    obtain ⟨q0, q1⟩ := box2 hbl
    clear hO
    by_cases hlt : k < q
    · have j0 : (0 : Int) ≤ (k : Int) := by omega
      have j1 : (k : Int) < (q : Int) := by omega
      have LA := Lib.hid (leastS_all HO.out hlt)
      obtain ⟨T, hT⟩ : ∃ T, T = seenL (distL q L k) q := ⟨_, rfl⟩
      obtain ⟨U, hU⟩ : ∃ U, U = seenL (distL q (revL L) k) q := ⟨_, rfl⟩
      have TL := Lib.hid (show T.length ≤ 24 from by rw [hT]; exact Nat.le_trans (seenL_len _ _) hq24)
      have UL := Lib.hid (show U.length ≤ 24 from by rw [hU]; exact Nat.le_trans (seenL_len _ _) hq24)
      rw [← hT, ← hU] at LA
      go_wp2_with fail
      refine (l11Reach_any q (k : Int) A n c L HN.out HO.out j0 j1 _ hm (K1.out.bl BW.out)).mono ?_
      rintro e w2 ⟨v2, rfl, hv2, hb2⟩
      rw [← hT] at hv2
      obtain ⟨A2, c2, rfl, -, hi2, -, -⟩ := OwnN.shape hv2
      have I2' := Lib.hid hi2
      have B2 := Lib.hid (hbl.trans_ hb2)
      have W2 := Lib.hid hb2
      clear hv2 hi2 q0 q1 hb2
      obtain ⟨q0, q1⟩ := box2 B2.out
      obtain ⟨l2, hl2⟩ : ∃ l2, l2 = T.length := ⟨_, rfl⟩
      have L2 := Lib.hid hl2
      have hl24 : l2 ≤ 24 := by rw [hl2]; exact TL.out
      rw [← hl2] at LA ⊢
      clear hl2 hT
      go_wp2_with fail
      refine (l1Reverse_any q A n c L HN.out _ hm (K1.out.bl ((Bl.alloc_ (Bl.refl w) _).trans_ B2.out))).mono ?_
      rintro e w3 ⟨v3, rfl, hv3, hb3⟩
      obtain ⟨A3, c3, rfl, ha3, -⟩ := hv3.shape
      have HA3 := Lib.hid ha3
      have hrl : (revL L).length ≤ 1048576 := by have := HSR.out; have := HN.out; omega
      have B3 := Lib.hid (B2.out.trans_ hb3)
      have W3 := Lib.hid (W2.out.trans_ hb3)
      have I3' := Lib.hid (I2'.out.bl hb3)
      clear hv3 ha3 q0 q1 hb3
      go_wp2_with fail
      refine (l11Reach_any q (k : Int) A3 _ c3 (revL L) rfl (revL_ok HO.out) j0 j1 _ hrl HA3.out).mono ?_
      rintro e w4 ⟨v4, rfl, hv4, hb4⟩
      rw [← hU] at hv4
      obtain ⟨A4, c4, rfl, -, hi4, -, -⟩ := OwnN.shape hv4
      have J4 := Lib.hid hi4
      have I4 := Lib.hid (I3'.out.bl hb4)
      have W4 := Lib.hid (W3.out.trans_ hb4)
      obtain ⟨l4, hl4⟩ : ∃ l4, l4 = U.length := ⟨_, rfl⟩
      have L4 := Lib.hid hl4
      have hl424 : l4 ≤ 24 := by rw [hl4]; exact UL.out
      rw [← hl4]
      clear hv4 hi4 hb4 hl4 hU
      go_wp2_with fail
      go_loopw [7, 8] (fun mv iv wr => ∃ i : Nat, i ≤ l2 ∧ iv = .int .i64 i ∧ mv = .int .i64 (leastS T U (k : Int) i) ∧ Bl w4 wr) (fun _ iv _ => l2 - (intOf iv).toNat)
      case atStart => exact ⟨0, by omega, rfl, rfl, Bl.refl _⟩
      case round =>
        obtain ⟨i, hi, rfl, rfl, hbx⟩ := hrel
        have HBX := Lib.hid hbx
        by_cases hli : i < l2
        · have hil : i < T.length := by have := L2.out; omega
          obtain ⟨g5, o5, rfl, hg5, hc5⟩ := (I4.out.bl hbx).cell (by omega)
          have p1 := hc5 i hil
          have LS := Lib.hid (show leastS T U (k : Int) (i + 1) = if T[i] ∈ U then min (leastS T U (k : Int) i) T[i] else leastS T U (k : Int) i from by
            have hg : T.getD i 0 = T[i] := by simp [hil]
            show (if T.getD i 0 ∈ U then _ else _) = _
            rw [hg])
          have hss := hbx.size
          have i0' : (0 : Int) ≤ (i : Int) := by omega
          have i1' : (i : Int) < (l2 : Int) := by omega
          obtain ⟨m, hm'⟩ : ∃ m, m = leastS T U (k : Int) i := ⟨_, rfl⟩
          rw [← hm'] at LS ⊢
          clear hc5 hm'
          generalize T[i] = x at *
          go_wp2_with fail
          refine (l1Has_any A4 c4 U l4 L4.out x _ (by omega) (J4.out.bl hbx)).mono ?_
          rintro e w6 ⟨rfl, hb6⟩
          have r1 := ((bcell hb6).1 _ _ hg5).trans p1
          have HB6 := Lib.hid (hbx.trans_ hb6)
          by_cases hx : x ∈ U
          · have dx : decide (x ∈ U) = true := by simpa using hx
            have LS' := Lib.hid (show leastS T U (k : Int) (i + 1) = min m x from by rw [LS.out, if_pos hx])
            rw [dx]
            clear hx dx p1
            go_wp2
            go_roundw
            case rel => exact ⟨i + 1, by omega, by go_num, by rw [LS'.out]; try (congr 1; split <;> omega), HB6.out⟩
            case measure => simp [intOf]; omega
          · have dx : decide (x ∈ U) = false := by simpa using hx
            have LS' := Lib.hid (show leastS T U (k : Int) (i + 1) = m from by rw [LS.out, if_neg hx])
            rw [dx]
            clear hx dx p1
            go_wp2
            go_roundw
            case rel => exact ⟨i + 1, by omega, by go_num, by rw [LS'.out], HB6.out⟩
            case measure => simp [intOf]; omega
        · obtain rfl : i = l2 := by omega
          rw [LA.out]
          have WR := Lib.hid (W4.out.trans_ hbx)
          obtain ⟨l, hl⟩ : ∃ l, l = (partS q L k).length := ⟨_, rfl⟩
          have HLL := Lib.hid hl
          have hlk : l ≤ 24 := by rw [hl, partS_len]; omega
          have PS := Lib.hid (partS_succ q L k)
          have hss := WR.out.size
          have OW := Lib.hid (show wr.ownsRow (w.heap.size + 1) 2 1 u3 l (csI (partS q L k)) from by
            have h := OO.out.bl WR.out
            unfold OwnN Owns at h
            rw [hl]
            exact h)
          obtain ⟨f, hf⟩ : ∃ f, f = firI q L q k := ⟨_, rfl⟩
          rw [← hf] at PS ⊢
          clear hl hf
          go_wp2_with (at_builtin; refine wpList_append_own _ rfl (.tmp 42) (.tmp 44) _ rfl (w.heap.size + 1) 2 i0 _ 1 8 Try.underlying45 I0.out I1.out I2.out I3.out rfl (by decide) _ l (csI (partS q L k)) rfl (World.ownsRow.alloc OW.out _) ⟨wr.heap.size, 0, none⟩ 1 1 [.int .i64 f] rfl rfl ?c0 (by simp [Value.oneCell']) ?c3 ?c4 ?c5 ?_)
          case c0 =>
            intro j u hj
            match j, hj with
            | 0, hj => simp at hj; subst hj; simp [Addr.add, go_sem]
            | (j + 1), hj => simp at hj
          case c3 => unfold maxLen; omega
          case c4 => omega
          case c5 => simp; omega
          intro v8 w8 hown8 hg8 _
          have O8 := Lib.hid (show OwnN w8 (w.heap.size + 1) v8 (partS q L (k + 1)) from by
            rw [PS.out]
            exact OwnN.snoc (V := partS q L k) (x := f) (n := l) HLL.out (by simpa using hown8))
          have B8 := Lib.hid (((BB.out.trans_ WR.out).alloc_ _).grown_ hg8 (fun g hg => by have := (World.ownsRow.lt OW.out g hg).1; simpa using this))
          clear hown8 hg8
          go_wp2
          go_roundw
          case rel => exact ⟨k + 1, by omega, by go_num, O8.out, B8.out⟩
          case measure => simp [intOf]; omega
    · obtain rfl : k = q := by omega
      go_wp2
      go_ret
      exact ⟨_, rfl, OO.out.low (by omega), BW.out⟩

set_option maxHeartbeats 1000000 in
theorem specPartsOf_any (N : Int) (A : Option Addr) (n c : Nat) (L : List Arc3) (hn : n = L.length) (hc : n ≤ c) (w : World) (hm : n ≤ 1048576) (H1 : ArcsAt w w.heap.size A L) :
    Calls Try.prog 42 #[.agg #[.int .i64 N, .slice A n c]] w (NumsMade (partsFL N L) w) := by
  have K1 := Lib.hid H1
  have HN := Lib.hid hn
  clear H1 hn
  cases ho : okB N L with
  | false =>
    have HO := Lib.hid ho
    clear ho
    go_enter Try.func42, Try.ntmps42
    go_wp2_with fail
    refine (specOk_any N A n c L HN.out _ (by omega) (K1.out.bl (by repeat' (first | exact Bl.refl _ | with_reducible assumption | with_reducible refine Bl.drew_ ?_ | with_reducible refine Bl.drewN_ ?_ _ | with_reducible refine Bl.alloc_ ?_ _ | with_reducible refine Bl.trans_ ?_ (by assumption) | with_reducible refine Bl.trans_ ?_ (And.left (by assumption)))))).mono ?_
    rintro e w1 ⟨rfl, hb1⟩
    rw [HO.out]
    go_wp2
    go_ret
    refine ⟨_, rfl, ?_, (by repeat' (first | exact Bl.refl _ | with_reducible assumption | with_reducible refine Bl.drew_ ?_ | with_reducible refine Bl.drewN_ ?_ _ | with_reducible refine Bl.alloc_ ?_ _ | with_reducible refine Bl.trans_ ?_ (by assumption) | with_reducible refine Bl.trans_ ?_ (And.left (by assumption))))⟩
    unfold partsFL
    rw [HO.out, if_neg (by simp)]
    exact World.ownsRow_made (base := w.heap.size) (e := 2) (size := 1) w1 #[] 0 (by have := hb1.size; simp at this; omega) (by unfold maxLen; omega) rfl
  | true =>
    have HO := Lib.hid ho
    have h1 := (okB_elim ho).1
    obtain ⟨q, rfl⟩ : ∃ q : Nat, N = q := ⟨N.toNat, by omega⟩
    clear ho
    go_enter Try.func42, Try.ntmps42
    go_wp2_with fail
    refine (specOk_any q A n c L HN.out _ (by omega) (K1.out.bl (by repeat' (first | exact Bl.refl _ | with_reducible assumption | with_reducible refine Bl.drew_ ?_ | with_reducible refine Bl.drewN_ ?_ _ | with_reducible refine Bl.alloc_ ?_ _ | with_reducible refine Bl.trans_ ?_ (by assumption) | with_reducible refine Bl.trans_ ?_ (And.left (by assumption)))))).mono ?_
    rintro e w1 ⟨rfl, hb1⟩
    rw [HO.out]
    obtain ⟨q0, q1⟩ := box2 hb1
    have hbw : Bl w w1 := (Bl.alloc_ (Bl.refl w) _).trans_ hb1
    clear hb1
    go_wp2_with fail
    refine (l11Parts_any q A n c L HN.out HO.out _ hm (K1.out.bl hbw)).mono ?_
    rintro e w3 ⟨v, rfl, hv, hb3⟩
    have V := Lib.hid (hv.low (B := w.heap.size) hbw.size)
    clear hv
    go_wp2
    go_ret
    refine ⟨v, rfl, ?_, hbw.trans_ hb3⟩
    unfold partsFL
    rw [HO.out, if_pos rfl]
    exact V.out

end Go.Proofs.Ytelgjfflhcmljaa
