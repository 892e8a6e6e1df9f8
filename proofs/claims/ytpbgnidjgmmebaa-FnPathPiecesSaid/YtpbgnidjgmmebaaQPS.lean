/-
  What is proved here: the model's first of the shortest paths. No conditions beyond those that each theorem states.
-/
import Derived.Test.YtpbgnidjgmmebaaZP
import Derived.Test.YtpbgnidjgmmebaaZG
import Derived.Test.YtpbgnidjgmmebaaZN
import Derived.Test.YtpbgnidjgmmebaaZS
set_option linter.unusedSimpArgs false
set_option linter.unusedVariables false
namespace Go.Proofs.Ytpbgnidjgmmebaa
open Go.RowKit

theorem cell_new_drewNp (w : World) (n : Nat) (v : Value) (t : TypeId) : ((w.drewN n).alloc (.cells #[v] t)).cell? ⟨w.heap.size, 0, none⟩ = some v := by
  have h : ∀ wz : World, (wz.alloc (.cells #[v] t)).cell? ⟨wz.heap.size, 0, none⟩ = some v := fun wz => by simp [go_sem]
  exact h (w.drewN n)

set_option maxRecDepth 100000 in
set_option maxHeartbeats 4000000 in
theorem l3Path_any (N s t : Int) (A : Option Addr) (n c : Nat) (L : List Arc3) (hn : n = L.length) (hh : has2 N L s t = true) (w : World) (hm : n ≤ 1048576) (H1 : ArcsAt w w.heap.size A L) :
    Calls Try.prog 71 #[.agg #[.int .i64 N, .slice A n c], .int .i64 s, .int .i64 t] w (NumsMade (pathL N L s t) w) := by
  obtain ⟨i0, hi, hz0, hz1, hz2⟩ := info_parts infoInt
  have I0 := Lib.hid hi
  have I1 := Lib.hid hz0
  have I2 := Lib.hid hz1
  have I3 := Lib.hid hz2
  have K1 := Lib.hid H1
  have HN := Lib.hid hn
  have HH := Lib.hid hh
  obtain ⟨ho, ⟨hs0, hs1⟩, ht0, ht1⟩ := has2_of hh
  have hN24 := (okB_elim ho).2.1
  have HO := Lib.hid ho
  have HRO := Lib.hid (revL_ok ho)
  have HRL := Lib.hid (revL_len (okB_elim ho).2.2.2.2)
  have HE := Lib.hid (distL_is (s := t) (arcsIn_of_ok (revL_ok ho)) hN24 ht0 ht1)
  have HET := Lib.hid (fun v => distL_top (s := t) (revL_ok ho) ht0 ht1 v)
  have HEl := Lib.hid (show (distL N (revL L) t).length = N.toNat from distL_len (revL_ok ho) ht0 ht1)
  obtain ⟨u, rfl⟩ : ∃ u : Nat, s = u := ⟨s.toNat, by omega⟩
  obtain ⟨z, rfl⟩ : ∃ z : Nat, N = z := ⟨N.toNat, by omega⟩
  clear hh ho H1 hn hi hz0 hz1 hz2
  go_enter Try.func71, Try.ntmps71
  go_wp2_with fail
  refine (l1Reverse_any z A n c L HN.out _ hm (K1.out.bl (by repeat' (first | exact Bl.refl _ | with_reducible assumption | with_reducible refine Bl.drew_ ?_ | with_reducible refine Bl.drewN_ ?_ _ | with_reducible refine Bl.alloc_ ?_ _ | with_reducible refine Bl.trans_ ?_ (by assumption) | with_reducible refine Bl.trans_ ?_ (And.left (by assumption)))))).mono ?_
  rintro e w1 ⟨v5, rfl, hv5, hb1⟩
  obtain ⟨A5, c5, rfl, ha5, -⟩ := hv5.shape
  have J5 := Lib.hid ha5
  clear hv5 ha5
  go_wp2_with fail
  refine (l3Dist_any z t A5 (revL L).length c5 (revL L) rfl HRO.out ht0 ht1 _ (by rw [HRL.out]; have := HN.out; omega) J5.out).mono ?_
  rintro e w2 ⟨v6, rfl, hv6, hb2⟩
  obtain ⟨A6, c6, rfl, -, hi6, -, lo6⟩ := OwnN.shape hv6
  have J6 := Lib.hid hi6
  have BB := Lib.hid ((Bl.alloc_ (Bl.refl w) (.cells #[.int .i64 (z : Int), .slice A n c] 26)).trans_ (hb1.trans_ hb2))
  have BX := Lib.hid (show ∀ wx, Bl w2 wx → (wx.cell? ⟨w.heap.size, 0, none⟩ = some (.int .i64 (z : Int)) ∧ wx.cell? ⟨w.heap.size, 1, none⟩ = some (.slice A n c)) from fun wx hb => box2 (hb1.trans_ (hb2.trans_ hb)))
  clear hv6 hi6 lo6 hb1 hb2
  have hEl : (distL z (revL L) t).length = z := by rw [HEl.out]; simp
  have EQ := Lib.hid hEl
  rw [hEl]
  have hue : u < (distL (z : Int) (revL L) t).length := by rw [hEl]; omega
  obtain ⟨g6, o6, rfl, hg6, hc6⟩ := J6.out.cell (by omega)
  have q2 := hc6 u hue
  have HDU := Lib.hid (dAt_at hue)
  have CE := Lib.hid hc6
  generalize (distL (z : Int) (revL L) t)[u] = d at q2 HDU
  have u0 : (0 : Int) ≤ (u : Int) := by omega
  have u1 : (u : Int) < (z : Int) := hs1
  clear hc6 hue hEl
  by_cases hd : d < 0
  · have bd : decide (d < 0) = true := by simpa using hd
    have HP := Lib.hid (show pathL z L u t = [] from by
      unfold pathL
      rw [if_neg (by rw [HDU.out, Bool.and_eq_true]; intro h; have := of_decide_eq_true h.2; omega)])
    go_wp2
    go_ret
    exact ⟨_, rfl, by rw [HP.out]; exact OwnN.nil_ _ _, BB.out⟩
  · have bd : decide (d < 0) = false := by simpa using hd
    have HP := Lib.hid (show pathL z L u t = (u : Int) :: stepsL L (distL z (revL L) t) t u from by
      unfold pathL
      rw [if_pos (by rw [HDU.out, Bool.and_eq_true]; exact ⟨HH.out, by simp; omega⟩)])
    have ST := Lib.hid (OnWay.start (L := L) (D := distL z (revL L) t) (t := t) (s := (u : Int)) (by rw [HDU.out]; omega))
    have hdb := (HET.out u).2
    have NW := Lib.hid (fun (v : Int) h0 h1 hv hd => nextL_some (L := L) (v := v) HO.out HE.out h0 h1 hv hd)
    generalize hDD : distL (z : Int) (revL L) t = D at *
    have O0 := Lib.hid (show OwnN (w2.alloc (.cells #[.int .i64 (u : Int)] 2)) w2.heap.size (.slice (some ⟨w2.heap.size, 0, none⟩) 1 1) [(u : Int)] from
      ⟨rfl, .inr ⟨w2.heap.size, 1, #[.int .i64 (u : Int)], rfl, Nat.le_refl _, World.alloc_heap_new _ _, Nat.le_refl _, by unfold maxLen; omega, rfl, rfl⟩⟩)
    clear HE HDU hDD HRL HRO J5
    go_wp2_with fail
    clear q2
    go_loopw [8, 9] (fun pv vv wr => ∃ (P : List Int) (v : Int), (0 ≤ v ∧ v < (z : Int)) ∧ vv = .int .i64 v ∧ OwnN wr w2.heap.size pv P ∧ OnWay L D u t P v ∧ Bl w2 wr) (fun _ vv _ => (dAt D (intOf vv)).toNat)
    case atStart => exact ⟨[(u : Int)], u, ⟨by omega, u1⟩, rfl, O0.out, ST.out, Bl.alloc_ (Bl.refl w2) _⟩
    case round =>
      obtain ⟨P, v, ⟨hv0, hv1⟩, rfl, hO, hway, hbl⟩ := hrel
      have O := Lib.hid hO
      have WY := Lib.hid hway
      obtain ⟨q0, q1⟩ := BX.out _ hbl
      have hPl : P.length ≤ 23001 := hway.len hdb
      clear hO hway
      by_cases hvt : v = t
      · have bv : (v != t) = false := by simpa using hvt
        subst hvt
        go_wp2
        go_ret
        refine ⟨u8, rfl, ?_, BB.out.trans_ hbl⟩
        rw [HP.out, ← WY.out.done]
        exact O.out.low BB.out.size
      · have bv : (v != t) = true := by simpa using hvt
        obtain ⟨a, hnx, haL, ha1, hap, has, ha0, haN, hal⟩ := NW.out v hv0 hv1 hvt WY.out.far
        have WY2 := Lib.hid (WY.out.next hvt hnx hap hal)
        have LT := Lib.hid hal
        have NX := Lib.hid hnx
        clear hnx haL ha1 hap has hal
        go_wp2_with fail
        refine (l1Outs_any z v A n c L HN.out _ hm (K1.out.bl (BB.out.trans_ hbl))).mono ?_
        rintro e w4 ⟨v4, rfl, hv4, hb4⟩
        obtain ⟨A4, c4, rfl, ha4, -⟩ := hv4.shape
        have hR := NX.out
        unfold nextL at hR
        obtain ⟨kf, hkf, hfa, hq, hno⟩ := first_at hR
        have hin : ∀ b ∈ fromL v L, 0 ≤ b.2.1 ∧ b.2.1 < (z : Int) ∧ 1 ≤ b.2.2 ∧ b.2.2 ≤ 1000 := fun b hb => by
          have h := arcsIn_of_ok HO.out b (by unfold fromL at hb; exact (List.mem_filter.1 hb).1)
          exact ⟨h.2.2.1, h.2.2.2.1, h.2.2.2.2.1, h.2.2.2.2.2⟩
        have HIN := Lib.hid hin
        have HQ := Lib.hid hq
        have HNO := Lib.hid hno
        have HFA := Lib.hid hfa
        have V4 := Lib.hid ha4
        have B4 := Lib.hid (hbl.trans_ hb4)
        have O4 := Lib.hid (O.out.bl hb4)
        obtain ⟨R, hRl⟩ : ∃ R, R = (fromL v L).length := ⟨_, rfl⟩
        rw [← hRl]
        have HRR := Lib.hid hRl
        have hkR : kf < R := by rw [hRl]; exact hkf
        have hR48 : R ≤ 1048576 := by rw [hRl]; have := fromL_len' v L; have := HN.out; omega
        obtain ⟨vn, rfl⟩ : ∃ vn : Nat, v = vn := ⟨v.toNat, by omega⟩
        have hvl : vn < D.length := by rw [EQ.out]; omega
        have HDV := Lib.hid (dAt_at hvl)
        clear hv4 ha4 hb4 hR hfa hq hno hin hRl q0 q1 O hbl
        go_wp2_with fail
        go_loopw [9, 11] (fun vv i wx => ∃ k : Nat, k ≤ kf ∧ vv = .int .i64 (vn : Int) ∧ i = .int .i64 k ∧ Bl w4 wx) (fun _ i _ => kf + 1 - (intOf i).toNat)
        case atStart => exact ⟨0, by omega, rfl, rfl, Bl.refl _⟩
        case round =>
          obtain ⟨k, hk, rfl, rfl, hbl⟩ := hrel
          have hkl : k < (fromL (vn : Int) L).length := by rw [← HRR.out]; omega
          obtain ⟨g4, o4, rfl, hg4, hc4⟩ := (V4.out.bl hbl) (by omega)
          obtain ⟨p1, p2, p3⟩ := hc4 k hkl
          obtain ⟨b0, b1, b2, b3⟩ := HIN.out _ (List.getElem_mem hkl)
          have HNK := Lib.hid (fun (h : k < kf) => (show nextB D (vn : Int) ((fromL (vn : Int) L)[k]'hkl) = false from HNO.out k h))
          have HYK := Lib.hid (fun (h : k = kf) => (show (fromL (vn : Int) L)[k] = a from by subst h; exact HFA.out))
          generalize (fromL (vn : Int) L)[k] = b at *
          obtain ⟨x1, y1, z1⟩ := b
          simp only at p1 p2 p3 b0 b1 b2 b3
          obtain ⟨yn, rfl⟩ : ∃ yn : Nat, y1 = yn := ⟨y1.toNat, by omega⟩
          have hyl : yn < D.length := by rw [EQ.out]; omega
          have HDY := Lib.hid (dAt_at hyl)
          have r1 := CE.out yn hyl
          have r2 := CE.out vn hvl
          have hb24 := B4.out.trans_ hbl
          rw [← (bcell hb24).1 _ _ hg6] at r1 r2
          have hty := HET.out yn
          rw [HDY.out] at hty
          have NB := Lib.hid (show nextB D (vn : Int) (x1, (yn : Int), z1) = decide (0 ≤ D[yn] ∧ z1 + D[yn] = D[vn]) from by unfold nextB; simp only; rw [HDY.out, HDV.out])
          generalize D[yn] = dy at *
          generalize hdv : D[vn] = dv at *
          have a1 : IntKind.i64.wrap (z1 + dy) = z1 + dy := IntWalk.i64_in _ (by omega)
          have k0 : (0 : Int) ≤ (k : Int) := by omega
          have k1 : (k : Int) < (R : Int) := by omega
          have y0 : (0 : Int) ≤ (yn : Int) := by omega
          have y2 : (yn : Int) < (z : Int) := b1
          have v0 : (0 : Int) ≤ (vn : Int) := by omega
          have v1 : (vn : Int) < (z : Int) := hv1
          clear hc4 p1
          by_cases h1 : 0 ≤ dy
          · have c1 : decide (0 ≤ dy) = true := by simpa using h1
            by_cases h2 : z1 + dy = dv
            · have c2 : (z1 + dy == dv) = true := by simpa using h2
              have HK := Lib.hid (show k = kf from by
                by_cases e : k < kf
                · have := HNK.out e
                  rw [NB.out, decide_eq_false_iff_not] at this
                  exact absurd ⟨h1, h2⟩ this
                · omega)
              have HA := Lib.hid (HYK.out HK.out)
              have AY := Lib.hid (show a.2.1 = (yn : Int) from by rw [← HA.out])
              have O5 := Lib.hid (O4.out.bl hbl)
              have B5 := Lib.hid hb24
              clear h2 hbl hb24 NB HNK HYK
              go_wp2
              go_quiet (fail)
              go_wp2_with (at_builtin; refine wpList_append_any _ rfl (.tmp 71) (.tmp 73) _ rfl w2.heap.size 2 i0 _ 1 8 Try.underlying37 I0.out I1.out I2.out I3.out rfl (by decide) _ P.length (csI P) rfl (World.ownsRow.alloc (OwnN.bl O5.out (by first | exact Bl.refl _ | exact (Bl.refl _).drew_ | exact (Bl.refl _).drewN_ _)) _) (wr.heap.size + 1) (some ⟨wr.heap.size, 0, none⟩) 1 1 [.int .i64 (yn : Int)] rfl ?c0 (by simp [Value.oneCell']) ?c3 ?c4 ?c5 ?_)
              case c0 =>
                refine ⟨rfl, fun _ => ⟨_, rfl, by show wr.heap.size < wr.heap.size + 1; omega, fun x u hj => ?_⟩⟩
                match x, hj with
                | 0, hj => simp at hj; subst hj; (try simp [Addr.add, go_sem]); (try exact cell_new_drewNp _ _ _ _)
                | (x + 1), hj => simp at hj
              case c3 => unfold maxLen; omega
              case c4 => omega
              case c5 => have := B5.out.size; simp; omega
              intro v' w8 hown' hgrow hwh
              have O8 := Lib.hid (OwnN.snoc (V := P) (x := (yn : Int)) (n := P.length) rfl (by simpa using hown'))
              have B8 : Hid (Bl w2 w8) := by
                refine Lib.hid (Bl.grown_ (B5.out.trans_ ?_) hgrow (fun g hg => (Owns.lt O5.out g hg).1))
                first | exact (Bl.refl wr).alloc_ _ | exact ((Bl.refl wr).alloc_ _).drew_ | exact ((Bl.refl wr).alloc_ _).drewN_ _ | exact ((Bl.refl wr).drewN_ _).alloc_ _
              clear hown' hgrow hwh
              go_wp2
              go_roundw
              case rel => exact ⟨P ++ [(yn : Int)], yn, ⟨y0, y2⟩, rfl, O8.out, by rw [← AY.out]; exact WY2.out, B8.out⟩
              case measure =>
                have h1 := LT.out
                have h2 := WY2.out.far
                rw [AY.out] at h1 h2
                simp only [intOf]
                omega
            · have c2 : (z1 + dy == dv) = false := by simpa using h2
              have HK := Lib.hid (show k < kf from by
                by_cases e : k < kf
                · exact e
                · have e2 : k = kf := by omega
                  have h3 := HQ.out
                  have h4 := HFA.out
                  have h5 := HYK.out e2
                  rw [h4, ← h5, NB.out, decide_eq_true_eq] at h3
                  exact absurd h3.2 h2)
              have hkk := HK.out
              clear h2 NB HNK HYK
              go_wp2
              go_quiet (fail)
              go_wp2
              go_roundw
              case rel => exact ⟨k + 1, by omega, rfl, by go_num, (by repeat' (first | exact Bl.refl _ | with_reducible assumption | with_reducible refine Bl.drew_ ?_ | with_reducible refine Bl.drewN_ ?_ _ | with_reducible refine Bl.alloc_ ?_ _ | with_reducible refine Bl.trans_ ?_ (by assumption) | with_reducible refine Bl.trans_ ?_ (And.left (by assumption))))⟩
              case measure => simp [intOf]; omega
          · have c1 : decide (0 ≤ dy) = false := by simpa using h1
            have HK := Lib.hid (show k < kf from by
              by_cases e : k < kf
              · exact e
              · have e2 : k = kf := by omega
                have h3 := HQ.out
                have h4 := HFA.out
                have h5 := HYK.out e2
                rw [h4, ← h5, NB.out, decide_eq_true_eq] at h3
                exact absurd h3.1 h1)
            have hkk := HK.out
            clear NB HNK HYK
            go_wp2
            go_quiet (fail)
            go_wp2
            go_roundw
            case rel => exact ⟨k + 1, by omega, rfl, by go_num, (by repeat' (first | exact Bl.refl _ | with_reducible assumption | with_reducible refine Bl.drew_ ?_ | with_reducible refine Bl.drewN_ ?_ _ | with_reducible refine Bl.alloc_ ?_ _ | with_reducible refine Bl.trans_ ?_ (by assumption) | with_reducible refine Bl.trans_ ?_ (And.left (by assumption))))⟩
            case measure => simp [intOf]; omega

end Go.Proofs.Ytpbgnidjgmmebaa
