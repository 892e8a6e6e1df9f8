/-
  What is proved here: slices.Concat over three slices of arcs makes a new list of all of them; impl.Weighed puts an arc of a new weight in its place; spec.Weighed puts an arc of a new weight in its place, as the model does; the model's nearest of some places; whether a number is among numbers, as the library tells it; toInt64S makes new memory that reads as what it is handed; what a slice of numbers that comes in is made of; words on memory that reads as a list of lists of numbers. No conditions beyond those that each theorem states.
-/
import Derived.Test.YtlddileiecnkjaaV5G03
import Derived.Test.YtlddileiecnkjaaV5G01
import Derived.Deep.AppendLies
import Derived.Deep.Draws
import Derived.Maps.AppendAt
import Derived.OwnWalk
import Derived.Lib.AppendZeros
import Derived.Test.YtlddileiecnkjaaV5G04
import Derived.Deep.RegionLaw
import Derived.Test.YtlddileiecnkjaaV5G12
import Derived.Test.YtlddileiecnkjaaV5G11
import Derived.Test.YtlddileiecnkjaaV5G10
import Derived.BigRegion
import Derived.Test.YtlddileiecnkjaaV5Z0
set_option linter.unusedSimpArgs false
set_option linter.unusedVariables false
namespace Go.Proofs.Ytlddileiecnkjaa
open Go.RowKit



section
variable {w w' : World} {B B' size n : Nat} {A : Option Addr} {xs : List Value}
end

section
variable {P : Program} (w : World)





end







end Go.Proofs.Ytlddileiecnkjaa

set_option linter.unusedSimpArgs false
set_option linter.unusedVariables false
namespace Go.Proofs.Ytlddileiecnkjaa
open Go.RowKit

/-- A graph and a flag are left; zero where the flag is false. -/
def WRes (ok : Bool) (N : Int) (M : List Arc3) (w : World) (e : Ending) (w' : World) : Prop :=
  ∃ v, e = .returned (.tuple #[.agg #[.int .i64 (if ok = true then N else 0), v], .bool ok]) ∧ OwnA w' w.heap.size v (if ok = true then M else []) ∧ Bl w w'
theorem WRes.no {N : Int} {M : List Arc3} {w w' : World} {ok : Bool} (h : ok = false) (hb : Bl w w') : WRes ok N M w (.returned (.tuple #[.agg #[.int .i64 0, .slice none 0 0], .bool false])) w' := by
  subst h
  exact ⟨_, rfl, OwnA.nil_ _ _, hb⟩

theorem ArcsAt.take_ {w : World} {B : Nat} {A : Option Addr} {L : List Arc3} (h : ArcsAt w B A L) (p : Nat) : ArcsAt w B A (L.take p) := fun h0 => by
  obtain ⟨g, off, e, hg, hc⟩ := h (by rw [List.length_take] at h0; omega)
  refine ⟨g, off, e, hg, fun k hk => ?_⟩
  rw [List.getElem_take]
  exact hc k (by rw [List.length_take] at hk; omega)

theorem OwnA.set_ {w : World} {B : Nat} {v : Value} {L : List Arc3} (h : OwnA w B v L) {p : Addr} (hp : p.block < B) (u : Value) : OwnA (w.setCell p u) B v L :=
  ⟨h.1, h.2.imp id (fun ⟨g, cap, cur, a, b, c, d⟩ => ⟨g, cap, cur, a, b, (Below.heap_setCell w p u g (by omega)).trans c, d⟩)⟩



end Go.Proofs.Ytlddileiecnkjaa

set_option linter.unusedSimpArgs false
set_option linter.unusedVariables false
namespace Go.Proofs.Ytlddileiecnkjaa
open Go.RowKit






end Go.Proofs.Ytlddileiecnkjaa

set_option linter.unusedSimpArgs false
set_option linter.unusedVariables false
namespace Go.Proofs.Ytlddileiecnkjaa
open Go.RowKit

set_option maxRecDepth 100000 in
set_option maxHeartbeats 16000000 in
theorem specNearest_any (N s : Int) (A : Option Addr) (n c : Nat) (L : List Arc3) (hn : n = L.length) (A2 : Option Addr) (k c2 : Nat) (V : List Int) (hk : k = V.length) (hkc : k ≤ c2) (z : Int) (w : World) (hm : n ≤ 1048576) (hkm : k ≤ 1048576)
    (H1 : ArcsAt w w.heap.size A L) (H2 : IntsAt w w.heap.size A2 V) :
    Calls Try.prog 39 #[.agg #[.int .i64 N, .slice A n c], .int .i64 s, .slice A2 k c2, .int .i64 z] w (ItemsNew (nrL N L s V z) w) := by
  have K1 := Lib.hid H1
  have K2 := Lib.hid H2
  have HN := Lib.hid hn
  have HK := Lib.hid hk
  have HKC := Lib.hid hkc
  clear H1 H2 hn hk hkc
  obtain ⟨wg, hwg⟩ : ∃ x, x = w.alloc (.cells #[.int .i64 N, .slice A n c] 33) := ⟨_, rfl⟩
  obtain ⟨w0, hw0⟩ : ∃ x, x = (w.alloc (.cells #[.int .i64 N, .slice A n c] 33)).alloc (.cells #[] 68) := ⟨_, rfl⟩
  have B0 := Lib.hid (show Bl w w0 from by rw [hw0]; exact ((Bl.refl w).alloc_ _).alloc_ _)
  have BG := Lib.hid (show Bl w wg from by rw [hwg]; exact (Bl.refl w).alloc_ _)
  have A0 := Lib.hid (show Bl wg w0 from by rw [hw0, ← hwg]; exact (Bl.refl wg).alloc_ _)
  have sg : wg.heap.size = w.heap.size + 1 := by rw [hwg]; simp
  have s0 : w0.heap.size = w.heap.size + 1 + 1 := by rw [hw0]; simp
  have HSH := Lib.hid (show ∀ wx, Bl wg wx → wx.cell? ⟨w.heap.size, 0, none⟩ = some (.int .i64 N) ∧ wx.cell? ⟨w.heap.size, 1, none⟩ = some (.slice A n c) from fun wx hb => by
    rw [hwg] at hb
    exact box2 hb)
  have OW0 := Lib.hid (show OwnI w0 (w.heap.size + 1) (.slice (some ⟨w.heap.size + 1, 0, none⟩) 0 0) [] from by
    have h := own_startI (w.alloc (.cells #[.int .i64 N, .slice A n c] 33)) (w.heap.size + 1) (by simp)
    rw [World.size_alloc] at h
    rw [hw0]; exact h)
  cases ho : okB N L with
  | false =>
    have HO := Lib.hid ho
    have HM := Lib.hid (show nrL N L s V z = [] from nrL_no (by unfold nrB has1; rw [ho]; rfl))
    clear ho hwg
    go_enter Try.func39, Try.ntmps39
    go_wp2_with fail
    rw [← hw0]
    refine (specOk_any N A n c L HN.out _ (by omega) (K1.out.bl B0.out)).mono ?_
    rintro e w1 ⟨rfl, hb1⟩
    have I1 := Lib.hid hb1
    rw [HO.out]
    clear hb1 hw0
    go_wp2
    go_ret
    refine ⟨_, rfl, ?_, B0.out.trans_ I1.out⟩
    rw [HM.out]
    exact (OW0.out.bl_ I1.out).low_ (by omega)
  | true =>
    have HO := Lib.hid ho
    have HNB := Lib.hid (nodeB_ok (v := s) ho)
    clear ho
    cases hs : decide (0 ≤ s ∧ s < N) with
    | false =>
      have HS := Lib.hid hs
      have HM := Lib.hid (show nrL N L s V z = [] from nrL_no (by unfold nrB has1; rw [hs]; simp))
      clear hs hwg
      go_enter Try.func39, Try.ntmps39
      go_wp2_with fail
      rw [← hw0]
      refine (specOk_any N A n c L HN.out _ (by omega) (K1.out.bl B0.out)).mono ?_
      rintro e w1 ⟨rfl, hb1⟩
      have I1 := Lib.hid hb1
      rw [HO.out]
      obtain ⟨x0, x1⟩ := HSH.out _ (A0.out.trans_ I1.out)
      clear hb1 hw0
      go_wp2_with fail
      refine (l1Node_any N s _ _).mono ?_
      rintro e w2 ⟨rfl, hb2⟩
      have I2 := Lib.hid (I1.out.trans_ hb2)
      rw [HNB.out, HS.out]
      clear hb2 x0 x1
      go_wp2
      go_ret
      refine ⟨_, rfl, ?_, B0.out.trans_ I2.out⟩
      rw [HM.out]
      exact (OW0.out.bl_ I2.out).low_ (by omega)
    | true =>
      have HS := Lib.hid hs
      have hs' : 0 ≤ s ∧ s < N := by simpa using hs
      clear hs
      cases hu : unB N V with
      | false =>
        have HU := Lib.hid hu
        have HM := Lib.hid (show nrL N L s V z = [] from nrL_no (by unfold nrB hasUB; rw [hu]; simp))
        clear hu hwg
        go_enter Try.func39, Try.ntmps39
        go_wp2_with fail
        rw [← hw0]
        refine (specOk_any N A n c L HN.out _ (by omega) (K1.out.bl B0.out)).mono ?_
        rintro e w1 ⟨rfl, hb1⟩
        have I1 := Lib.hid hb1
        rw [HO.out]
        obtain ⟨x0, x1⟩ := HSH.out _ (A0.out.trans_ I1.out)
        clear hb1 hw0
        go_wp2_with fail
        refine (l1Node_any N s _ _).mono ?_
        rintro e w2 ⟨rfl, hb2⟩
        have I2 := Lib.hid (I1.out.trans_ hb2)
        rw [HNB.out, HS.out]
        obtain ⟨x0, x1⟩ := HSH.out _ (A0.out.trans_ I2.out)
        clear hb2
        go_wp2_with fail
        refine (l6Nodes_any N A n c L HO.out A2 k c2 V HK.out HKC.out _ (by omega) (K2.out.bl (B0.out.trans_ I2.out))).mono ?_
        rintro e w3 ⟨rfl, hb3⟩
        have I3 := Lib.hid (I2.out.trans_ hb3)
        rw [HU.out]
        clear hb3 x0 x1
        go_wp2
        go_ret
        refine ⟨_, rfl, ?_, B0.out.trans_ I3.out⟩
        rw [HM.out]
        exact (OW0.out.bl_ I3.out).low_ (by omega)
      | true =>
        have HU := Lib.hid hu
        obtain ⟨hin, hnd⟩ : (∀ v ∈ V, 0 ≤ v ∧ v < N) ∧ V.Nodup := by simpa [unB] using hu
        have HIN := Lib.hid hin
        clear hu hin hnd
        by_cases hz : z < 0
        · have HM := Lib.hid (show nrL N L s V z = [] from nrL_no (by unfold nrB; rw [show decide (0 ≤ z) = false from by simpa using hz]; simp))
          have bz : decide (z < 0) = true := by simpa using hz
          clear hwg
          go_enter Try.func39, Try.ntmps39
          go_wp2_with fail
          rw [← hw0]
          refine (specOk_any N A n c L HN.out _ (by omega) (K1.out.bl B0.out)).mono ?_
          rintro e w1 ⟨rfl, hb1⟩
          have I1 := Lib.hid hb1
          rw [HO.out]
          obtain ⟨x0, x1⟩ := HSH.out _ (A0.out.trans_ I1.out)
          clear hb1 hw0
          go_wp2_with fail
          refine (l1Node_any N s _ _).mono ?_
          rintro e w2 ⟨rfl, hb2⟩
          have I2 := Lib.hid (I1.out.trans_ hb2)
          rw [HNB.out, HS.out]
          obtain ⟨x0, x1⟩ := HSH.out _ (A0.out.trans_ I2.out)
          clear hb2
          go_wp2_with fail
          refine (l6Nodes_any N A n c L HO.out A2 k c2 V HK.out HKC.out _ (by omega) (K2.out.bl (B0.out.trans_ I2.out))).mono ?_
          rintro e w3 ⟨rfl, hb3⟩
          have I3 := Lib.hid (I2.out.trans_ hb3)
          rw [HU.out]
          clear hb3 x0 x1
          go_wp2
          go_ret
          refine ⟨_, rfl, ?_, B0.out.trans_ I3.out⟩
          rw [HM.out]
          exact (OW0.out.bl_ I3.out).low_ (by omega)
        · have hz0 : 0 ≤ z := by omega
          have bz : decide (z < 0) = false := by simpa using hz
          have HM := Lib.hid (show nrL N L s V z = (nrAll N L s V).take z.toNat from nrL_yes (by unfold nrB has1 hasUB; rw [HO.out, HS.out, HU.out]; simpa using hz0))
          have DL := Lib.hid (distL_len HO.out hs'.1 hs'.2)
          obtain ⟨D, hD⟩ : ∃ D, D = distL N L s := ⟨_, rfl⟩
          have HD := Lib.hid hD
          clear hz hwg
          go_enter Try.func39, Try.ntmps39
          go_wp2_with fail
          rw [← hw0]
          refine (specOk_any N A n c L HN.out _ (by omega) (K1.out.bl B0.out)).mono ?_
          rintro e w1 ⟨rfl, hb1⟩
          have I1 := Lib.hid hb1
          rw [HO.out]
          obtain ⟨x0, x1⟩ := HSH.out _ (A0.out.trans_ I1.out)
          clear hb1 hw0
          go_wp2_with fail
          refine (l1Node_any N s _ _).mono ?_
          rintro e w2 ⟨rfl, hb2⟩
          have I2 := Lib.hid (I1.out.trans_ hb2)
          rw [HNB.out, HS.out]
          obtain ⟨x0, x1⟩ := HSH.out _ (A0.out.trans_ I2.out)
          clear hb2
          go_wp2_with fail
          refine (l6Nodes_any N A n c L HO.out A2 k c2 V HK.out HKC.out _ (by omega) (K2.out.bl (B0.out.trans_ I2.out))).mono ?_
          rintro e w3 ⟨rfl, hb3⟩
          have I3 := Lib.hid (I2.out.trans_ hb3)
          rw [HU.out]
          obtain ⟨x0, x1⟩ := HSH.out _ (A0.out.trans_ I3.out)
          clear hb3
          go_wp2_with fail
          refine (l3Dist_any N s A n c L HN.out HO.out hs'.1 hs'.2 _ hm (K1.out.bl (B0.out.trans_ I3.out))).mono ?_
          rintro e w4 ⟨vD, rfl, hvD, hb4⟩
          rw [← hD] at hvD
          have I4 := Lib.hid (I3.out.trans_ hb4)
          obtain ⟨AD, cD, rfl, -, aD, -⟩ := Owns.shape (show Owns _ _ _ _ _ _ _ from hvD)
          have KD := Lib.hid (show IntsAt w4 w4.heap.size AD D from aD)
          obtain ⟨nD, hnD⟩ : ∃ m, m = D.length := ⟨_, rfl⟩
          rw [← hnD]
          have HND := Lib.hid hnD
          have hnDN : (nD : Int) = N := by have := DL.out; rw [← HD.out] at this; omega
          clear hvD aD hb4 hD hnD x0 x1
          go_wp2
          go_loopw [9, 11] (fun v i wr => ∃ (j g m e : Nat) (X : List It), j ≤ k ∧ i = .int .i64 j ∧ v = .slice (some ⟨g, 0, none⟩) m e ∧ Hid (m = X.length) ∧ Hid (X = nrK D V j) ∧ Hid (OwnI wr (w.heap.size + 1) (.slice (some ⟨g, 0, none⟩) m e) X) ∧ Bl w4 wr) (fun _ i _ => k - (intOf i).toNat)
          case atStart => exact ⟨0, _, 0, 0, [], by omega, rfl, rfl, Lib.hid rfl, Lib.hid rfl, Lib.hid (OW0.out.bl_ I4.out), Bl.refl w4⟩
          case round =>
            obtain ⟨wq, rfl⟩ : ∃ x : World, x = wr := ⟨_, rfl⟩
            obtain ⟨j, g, m, e, X, hj, rfl, rfl, HMX, HX, OX, hbl⟩ := hrel
            have BQ := Lib.hid hbl
            have hmk : m ≤ j := by have := nrK_len D V j; have := HX.out; have := HMX.out; rw [HX.out] at this; omega
            by_cases hlt : j < k
            · have hjl : j < V.length := by have := HK.out; omega
              obtain ⟨g2, o2, rfl, hg2, hc2⟩ := K2.out.cell (by omega)
              have p1 := hc2 j hjl
              obtain ⟨y, hy⟩ : ∃ y, y = V[j] := ⟨_, rfl⟩
              have hyi := HIN.out _ (List.getElem_mem hjl)
              have hyd : V.getD j 0 = y := by rw [hy]; simp [hjl]
              rw [← hy] at p1 hyi
              obtain ⟨u, rfl⟩ : ∃ u : Nat, y = u := ⟨y.toNat, by omega⟩
              have hul : u < D.length := by have := HND.out; omega
              obtain ⟨gD, oD, rfl, hgD, hcD⟩ := KD.out.cell (by omega)
              have p2 := hcD u hul
              obtain ⟨kx, hkx⟩ : ∃ kx, kx = D[u] := ⟨_, rfl⟩
              rw [← hkx] at p2
              have hdx : dAt D (u : Int) = kx := by rw [hkx]; unfold dAt; simp [hul]
              have HST := Lib.hid (show nrK D V (j + 1) = if kx < 0 then nrK D V j else insI (kx, (u : Int)) (nrK D V j) from by
                show (if dAt D (V.getD j 0) < 0 then nrK D V j else insI (dAt D (V.getD j 0), V.getD j 0) (nrK D V j)) = _
                rw [hyd, hdx])
              have q1 := ((bcell (B0.out.trans_ (I4.out.trans_ BQ.out))).1 _ _ hg2).trans p1
              have q2 := ((bcell BQ.out).1 _ _ hgD).trans p2
              have i0 : (0 : Int) ≤ (j : Int) := by omega
              have i1 : (j : Int) < (k : Int) := by omega
              have i2 : (0 : Int) ≤ (u : Int) := by omega
              have i3 : (u : Int) < (nD : Int) := by have := HND.out; omega
              have l1 : g2 < wq.heap.size := by have := (B0.out.trans_ (I4.out.trans_ BQ.out)).size; omega
              have l2 : gD < wq.heap.size := by have := BQ.out.size; omega
              clear hy hyi hyd hc2 hcD p1 p2 hkx hdx hbl hg2 hgD
              go_wp2_with fail
              go_region
              obtain ⟨wa, hwa⟩ : ∃ x, x = (wq.alloc (.cells #[.int .i64 kx, .int .i64 (u : Int)] 68)).drew := ⟨_, rfl⟩
              have BA := Lib.hid (show Bl wq wa from by rw [hwa]; exact ((Bl.refl wq).alloc_ _).drew_)
              have sa : wa.heap.size = wq.heap.size + 1 := by rw [hwa]; simp
              have CA := Lib.hid (show ∀ wx, Bl wa wx → wx.cell? ⟨wq.heap.size, 0, none⟩ = some (.int .i64 kx) ∧ wx.cell? ⟨wq.heap.size, 1, none⟩ = some (.int .i64 (u : Int)) from fun wx hb => by
                obtain ⟨e1, -⟩ := bcell hb
                rw [e1 _ _ (by omega), e1 _ _ (by omega), hwa]
                exact ⟨by simp [go_sem], by simp [go_sem]⟩)
              rw [← hwa]
              clear hwa q1 q2
              obtain ⟨r0, r1⟩ := CA.out _ (Bl.refl wa)
              have OA := Lib.hid (OX.out.bl_ BA.out)
              have hcap := own_capI OA.out
              by_cases hneg : kx < 0
              · have bn : decide (kx < 0) = true := by simpa using hneg
                go_wp2
                go_roundw
                case rel => exact ⟨j + 1, g, m, e, X, by omega, by go_num, rfl, HMX, Lib.hid (by rw [HST.out, if_pos hneg]; exact HX.out), OA, BQ.out.trans_ BA.out⟩
                case measure => simp [intOf]; omega
              · have bn : decide (kx < 0) = false := by simpa using hneg
                have HNG := Lib.hid hneg
                clear hneg
                go_wp2
                clear r0 r1
                go_loopw [13] (fun i wr => ∃ a : Nat, a ≤ m ∧ i = .int .i64 a ∧ Hid (∀ t (h : t < X.length), t < a → lessI X[t] (kx, (u : Int)) = true) ∧ Bl wa wr) (fun i _ => m - (intOf i).toNat)
                case atStart => exact ⟨0, by omega, rfl, Lib.hid (fun t _ h => absurd h (by omega)), Bl.refl wa⟩
                case round =>
                  obtain ⟨wz, rfl⟩ : ∃ x : World, x = wr := ⟨_, rfl⟩
                  obtain ⟨a, ha, rfl, HLE, hbz⟩ := hrel
                  have BZ := Lib.hid hbz
                  obtain ⟨r0, r1⟩ := CA.out _ BZ.out
                  clear hbz
                  by_cases hax : a < m
                  · have hal : a < X.length := by have := HMX.out; omega
                    obtain ⟨f0, f1⟩ : wz.cell? ⟨g, a * 2, none⟩ = some (.int .i64 X[a].1) ∧ wz.cell? ⟨g, a * 2 + 1, none⟩ = some (.int .i64 X[a].2) := by
                      obtain ⟨g', o', e', -, hc'⟩ := (own_atI (OA.out.bl_ BZ.out)).cell (by omega)
                      injection e' with e'
                      injection e' with e1 e2 e3
                      subst e1; subst e2
                      have := hc' a hal
                      rw [Nat.zero_add] at this
                      exact this
                    have hgz : g < wz.heap.size := World.block_lt_of_cell? _ _ f0
                    obtain ⟨xa, hxa⟩ : ∃ xa, xa = X[a] := ⟨_, rfl⟩
                    have HXA := Lib.hid hxa
                    rw [← hxa] at f0 f1
                    obtain ⟨xk, xi⟩ := xa
                    simp only at f0 f1
                    have a0 : (0 : Int) ≤ (a : Int) := by omega
                    have a1 : (a : Int) < (m : Int) := by omega
                    have HSZ := Lib.hid (show ∀ wx, Bl wz wx → Bl wz wx ∧ wx.cell? ⟨g, a * 2, none⟩ = some (.int .i64 xk) ∧ wx.cell? ⟨g, a * 2 + 1, none⟩ = some (.int .i64 xi) ∧ wx.cell? ⟨wq.heap.size, 0, none⟩ = some (.int .i64 kx) ∧ wx.cell? ⟨wq.heap.size, 1, none⟩ = some (.int .i64 (u : Int)) from fun wx hb => by
                      obtain ⟨e1, -⟩ := bcell hb
                      obtain ⟨e3, e4⟩ := CA.out _ (BZ.out.trans_ hb)
                      exact ⟨hb, (e1 _ _ hgz).trans f0, (e1 _ _ hgz).trans f1, e3, e4⟩)
                    clear hxa f0 f1 r0 r1
                    obtain ⟨bb, hbb⟩ : ∃ bb, bb = lessI (xk, xi) (kx, (u : Int)) := ⟨_, rfl⟩
                    have HBB := Lib.hid hbb
                    have HL2 := l2Less_any xk xi kx (u : Int)
                    rw [← hbb] at HL2
                    clear hbb
                    go_wp2_with fail
                    refine wp_region_held_drew (S := fun wx => Bl wz wx ∧ wx.cell? ⟨g, a * 2, none⟩ = some (.int .i64 xk) ∧ wx.cell? ⟨g, a * 2 + 1, none⟩ = some (.int .i64 xi) ∧ wx.cell? ⟨wq.heap.size, 0, none⟩ = some (.int .i64 kx) ∧ wx.cell? ⟨wq.heap.size, 1, none⟩ = some (.int .i64 (u : Int))) (by kernel_rfl) ?_ (fun hHeld => ?_)
                    · (exact HSZ.out _ (by repeat' (first | exact Bl.refl _ | with_reducible assumption | with_reducible refine Bl.drew_ ?_ | with_reducible refine Bl.drewN_ ?_ _ | with_reducible refine Bl.alloc_ ?_ _ | with_reducible refine Bl.trans_ ?_ (by assumption) | with_reducible refine Bl.trans_ ?_ (And.left (by assumption)))))
                    refine wpAnyH_take (i := 0) (v := ?_) rfl (by kernel_rfl) (by kernel_rfl) (by kernel_rfl) (fun _ _ _ h => h) (Or.inl ⟨by kernel_rfl, ?_⟩) (by assumption) ?_
                    rotate_left
                    · (intro wx hSw; (try dsimp only at hSw); go_simp; try (with_reducible rfl))
                    try simp only [Act.put, List.getElem_toArray, List.getElem_cons_succ, List.getElem_cons_zero, List.setIfInBounds_toArray, List.set_cons_zero, List.set_cons_succ]
                    refine wpAnyH_take (i := 1) (v := ?_) rfl (by kernel_rfl) (by kernel_rfl) (by kernel_rfl) (fun _ _ _ h => h) (Or.inl ⟨by kernel_rfl, ?_⟩) (by assumption) ?_
                    rotate_left
                    · (intro wx hSw; (try dsimp only at hSw); go_simp; try (with_reducible rfl))
                    try simp only [Act.put, List.getElem_toArray, List.getElem_cons_succ, List.getElem_cons_zero, List.setIfInBounds_toArray, List.set_cons_zero, List.set_cons_succ]
                    refine wpAnyH_ready (rs := [2]) (by kernel_rfl) (by simp) ?_
                    refine AllReadyH.cons rfl (fun K hK => ?_) AllReadyH.nil
                    go_simp
                    refine hK.out _ _ ?_ (fun hHeld => ?_)
                    · (exact HSZ.out _ (by repeat' (first | exact Bl.refl _ | with_reducible assumption | with_reducible refine Bl.drew_ ?_ | with_reducible refine Bl.drewN_ ?_ _ | with_reducible refine Bl.alloc_ ?_ _ | with_reducible refine Bl.trans_ ?_ (by assumption) | with_reducible refine Bl.trans_ ?_ (And.left (by assumption)))))
                    clear hK K
                    try simp only [Act.put, List.getElem_toArray, List.getElem_cons_succ, List.getElem_cons_zero, List.setIfInBounds_toArray, List.set_cons_zero, List.set_cons_succ]
                    refine wpAnyH_take (i := 3) (v := ?_) rfl (by kernel_rfl) (by kernel_rfl) (by kernel_rfl) (fun _ _ _ h => h) (Or.inl ⟨by kernel_rfl, ?_⟩) (by assumption) ?_
                    rotate_left
                    · (intro wx hSw; (try dsimp only at hSw); go_simp; try (with_reducible rfl))
                    try simp only [Act.put, List.getElem_toArray, List.getElem_cons_succ, List.getElem_cons_zero, List.setIfInBounds_toArray, List.set_cons_zero, List.set_cons_succ]
                    refine wpAnyH_take (i := 4) (v := ?_) rfl (by kernel_rfl) (by kernel_rfl) (by kernel_rfl) (fun _ _ _ h => h) (Or.inl ⟨by kernel_rfl, ?_⟩) (by assumption) ?_
                    rotate_left
                    · (intro wx hSw; (try dsimp only at hSw); go_simp; try (with_reducible rfl))
                    try simp only [Act.put, List.getElem_toArray, List.getElem_cons_succ, List.getElem_cons_zero, List.setIfInBounds_toArray, List.set_cons_zero, List.set_cons_succ]
                    refine wpAnyH_take (i := 5) (v := ?_) rfl (by kernel_rfl) (by kernel_rfl) (by kernel_rfl) (fun _ _ _ h => h) (Or.inl ⟨by kernel_rfl, ?_⟩) (by assumption) ?_
                    rotate_left
                    · (intro wx hSw; (try dsimp only at hSw); go_simp; try (with_reducible rfl))
                    try simp only [Act.put, List.getElem_toArray, List.getElem_cons_succ, List.getElem_cons_zero, List.setIfInBounds_toArray, List.set_cons_zero, List.set_cons_succ]
                    refine wpAnyH_take (i := 6) (v := ?_) rfl (by kernel_rfl) (by kernel_rfl) (by kernel_rfl) (fun _ _ _ h => h) (Or.inl ⟨by kernel_rfl, ?_⟩) (by assumption) ?_
                    rotate_left
                    · (intro wx hSw; (try dsimp only at hSw); go_simp; try (with_reducible rfl))
                    try simp only [Act.put, List.getElem_toArray, List.getElem_cons_succ, List.getElem_cons_zero, List.setIfInBounds_toArray, List.set_cons_zero, List.set_cons_succ]
                    refine wpAnyH_take (i := 7) (v := ?_) rfl (by kernel_rfl) (by kernel_rfl) (by kernel_rfl) (fun _ _ _ h => h) (Or.inl ⟨by kernel_rfl, ?_⟩) (by assumption) ?_
                    rotate_left
                    · (intro wx hSw; (try dsimp only at hSw); go_simp; try (with_reducible rfl))
                    try simp only [Act.put, List.getElem_toArray, List.getElem_cons_succ, List.getElem_cons_zero, List.setIfInBounds_toArray, List.set_cons_zero, List.set_cons_succ]
                    refine wpAnyH_take (i := 8) (v := ?_) rfl (by kernel_rfl) (by kernel_rfl) (by kernel_rfl) (fun _ _ _ h => h) (Or.inl ⟨by kernel_rfl, ?_⟩) (by assumption) ?_
                    rotate_left
                    · (intro wx hSw; (try dsimp only at hSw); go_simp; try (with_reducible rfl))
                    try simp only [Act.put, List.getElem_toArray, List.getElem_cons_succ, List.getElem_cons_zero, List.setIfInBounds_toArray, List.set_cons_zero, List.set_cons_succ]
                    refine wpAnyH_take (i := 9) (v := ?_) rfl (by kernel_rfl) (by kernel_rfl) (by kernel_rfl) (fun _ _ _ h => h) (Or.inl ⟨by kernel_rfl, ?_⟩) (by assumption) ?_
                    rotate_left
                    · (intro wx hSw; (try dsimp only at hSw); go_simp; try (with_reducible rfl))
                    try simp only [Act.put, List.getElem_toArray, List.getElem_cons_succ, List.getElem_cons_zero, List.setIfInBounds_toArray, List.set_cons_zero, List.set_cons_succ]
                    refine wpAnyH_ready (rs := [10]) (by kernel_rfl) (by simp) ?_
                    refine AllReadyH.cons rfl (fun K hK => ?_) AllReadyH.nil
                    go_simp
                    (go_at_call 101; refine (HL2 _).mono ?_; rintro e5 w5 ⟨rfl, hb5⟩)
                    try (go_wp2_with fail)
                    refine hK.out _ _ ?_ (fun hHeld => ?_)
                    · (exact HSZ.out _ (by repeat' (first | exact Bl.refl _ | with_reducible assumption | with_reducible refine Bl.drew_ ?_ | with_reducible refine Bl.drewN_ ?_ _ | with_reducible refine Bl.alloc_ ?_ _ | with_reducible refine Bl.trans_ ?_ (by assumption) | with_reducible refine Bl.trans_ ?_ (And.left (by assumption)))))
                    clear hK K
                    try simp only [Act.put, List.getElem_toArray, List.getElem_cons_succ, List.getElem_cons_zero, List.setIfInBounds_toArray, List.set_cons_zero, List.set_cons_succ]
                    refine wpAnyH_take (i := 11) (v := ?_) rfl (by kernel_rfl) (by kernel_rfl) (by kernel_rfl) (fun _ _ _ h => h) (Or.inl ⟨by kernel_rfl, ?_⟩) (by assumption) ?_
                    rotate_left
                    · (intro wx hSw; (try dsimp only at hSw); go_simp; try (with_reducible rfl))
                    try simp only [Act.put, List.getElem_toArray, List.getElem_cons_succ, List.getElem_cons_zero, List.setIfInBounds_toArray, List.set_cons_zero, List.set_cons_succ]
                    refine wpAnyH_done (by kernel_rfl) ?_ _
                    have BH := Lib.hid hHeld.1
                    clear hHeld hb5 HL2
                    cases hb : bb with
                    | true =>
                      go_wp2
                      go_roundw
                      case rel => exact ⟨a + 1, by omega, by go_num, Lib.hid (fun t ht hta => by
                        rcases Nat.lt_or_ge t a with h' | h'
                        · exact HLE.out t ht h'
                        · obtain rfl : t = a := by omega
                          rw [← HXA.out, ← HBB.out, hb]), BZ.out.trans_ BH.out⟩
                      case measure => simp [intOf]; omega
                    | false =>
                      have BZ5 := Lib.hid (BZ.out.trans_ BH.out)
                      have HIA := Lib.hid (ins_at (x := (kx, (u : Int))) (X := X) (a := a) (by have := HMX.out; omega) HLE.out (fun h => by rw [← HXA.out, ← HBB.out, hb]))
                      have o1 : (a : Int) ≤ (e : Int) := by omega
                      have o2' : (a : Int) ≤ (m : Int) := by omega
                      have o0 : (0 : Int) ≤ (a : Int) := by omega
                      have YZ := Lib.hid (OA.out.bl_ BZ5.out)
                      have zs := BZ5.out.size
                      have hmX : X.length ≤ 1048576 := by have := HMX.out; omega
                      go_wp2_with (at_builtin; refine wp_cat_Item rfl (.tmp 74) (.tmp 77) rfl _ w5.heap.size _ [] (some ⟨g, 0, none⟩) a e (X.take a) rfl rfl (own_startI w5 w5.heap.size (Nat.le_refl _)) (by simp) (by simp) (by rw [List.length_take]; have := HMX.out; omega) (by omega) (items_take ((own_atI YZ.out).bl ((Bl.refl w5).alloc_ _))) ?_)
                      intro v5 wy5 hv5 hb5
                      have V5 := Lib.hid (show OwnI wy5 w5.heap.size v5 (X.take a) from hv5)
                      have B5 := Lib.hid (hb5 w5 ((Bl.refl w5).alloc_ _) (Nat.le_refl _))
                      obtain ⟨t0, t1⟩ := CA.out _ (BZ5.out.trans_ B5.out)
                      have z5 := B5.out.size
                      have hlt5 : wq.heap.size < wy5.heap.size := by omega
                      clear hv5 hb5
                      go_wp2_with (at_builtin; refine wp_cat_Item rfl (.tmp 79) (.tmp 81) rfl _ w5.heap.size v5 (X.take a) (some ⟨wy5.heap.size, 0, none⟩) 1 1 [(kx, (u : Int))] rfl rfl (V5.out.bl_ ((Bl.refl wy5).alloc_ _)) (by rw [List.length_take]; omega) (by simp; omega) rfl (by omega) (items_new wy5 _ _ _ _ (by simp)) ?_)
                      intro v6 wy6 hv6 hb6
                      have V6 := Lib.hid hv6
                      have B6 := Lib.hid (hb6 w5 (B5.out.alloc_ _) (Nat.le_refl _))
                      have z6 := B6.out.size
                      clear hv6 hb6 t0 t1
                      go_wp2_with (at_builtin; refine wp_cat_Item rfl (.tmp 83) (.tmp 86) rfl _ w5.heap.size v6 (X.take a ++ [(kx, (u : Int))]) (some ⟨g, a * 2, none⟩) (m - a) _ (X.drop a) rfl (by first | rfl | simp [Act.eval, Act.put]) V6.out (by rw [List.length_append, List.length_take]; simp; omega) (by omega) (by rw [List.length_drop]; have := HMX.out; omega) (by omega) (items_drop ((own_atI (YZ.out.bl_ B6.out)))) ?_)
                      intro v7 wy7 hv7 hb7
                      have hv7 : OwnI wy7 w5.heap.size v7 (insI (kx, (u : Int)) X) := by rw [← HIA.out]; first | exact hv7 | simpa using hv7
                      have B7 := Lib.hid (hb7 w5 B6.out (Nat.le_refl _))
                      obtain ⟨g7, c7, rfl, -, -⟩ := own_shapeI hv7 (List.length_pos_of_mem (ins_mem'.2 (.inl rfl)))
                      have V7 := Lib.hid hv7
                      clear hv7 hb7
                      go_wp2
                      go_roundw
                      case rel => exact ⟨j + 1, g7, _, c7, insI (kx, (u : Int)) X, by omega, by go_num, rfl, Lib.hid rfl, Lib.hid (by rw [HST.out, if_neg (Int.not_lt.2 HNG.out), ← HX.out]), Lib.hid (V7.out.low_ (by have := (B0.out.trans_ (I4.out.trans_ BQ.out)).size; omega)), BQ.out.trans_ (BA.out.trans_ (BZ5.out.trans_ B7.out))⟩
                      case measure => simp [intOf]; omega
                  · have hge : m ≤ a := by omega
                    have a1 : ¬ (a : Int) < (m : Int) := by omega
                    go_wp2_with fail
                    go_region
                    obtain ⟨w5, hw5⟩ : ∃ x, x = wz.drew := ⟨_, rfl⟩
                    have BZ5 := Lib.hid (show Bl wa w5 from by rw [hw5]; exact BZ.out.drew_)
                    rw [← hw5]
                    clear hw5 r0 r1
                    have HIA := Lib.hid (ins_at (x := (kx, (u : Int))) (X := X) (a := a) (by have := HMX.out; omega) HLE.out (fun h => absurd h (by have := HMX.out; omega)))
                    have o1 : (a : Int) ≤ (e : Int) := by omega
                    have o2' : (a : Int) ≤ (m : Int) := by omega
                    have o0 : (0 : Int) ≤ (a : Int) := by omega
                    have YZ := Lib.hid (OA.out.bl_ BZ5.out)
                    have zs := BZ5.out.size
                    have hmX : X.length ≤ 1048576 := by have := HMX.out; omega
                    go_wp2_with (at_builtin; refine wp_cat_Item rfl (.tmp 74) (.tmp 77) rfl _ w5.heap.size _ [] (some ⟨g, 0, none⟩) a e (X.take a) rfl rfl (own_startI w5 w5.heap.size (Nat.le_refl _)) (by simp) (by simp) (by rw [List.length_take]; have := HMX.out; omega) (by omega) (items_take ((own_atI YZ.out).bl ((Bl.refl w5).alloc_ _))) ?_)
                    intro v5 wy5 hv5 hb5
                    have V5 := Lib.hid (show OwnI wy5 w5.heap.size v5 (X.take a) from hv5)
                    have B5 := Lib.hid (hb5 w5 ((Bl.refl w5).alloc_ _) (Nat.le_refl _))
                    obtain ⟨t0, t1⟩ := CA.out _ (BZ5.out.trans_ B5.out)
                    have z5 := B5.out.size
                    have hlt5 : wq.heap.size < wy5.heap.size := by omega
                    clear hv5 hb5
                    go_wp2_with (at_builtin; refine wp_cat_Item rfl (.tmp 79) (.tmp 81) rfl _ w5.heap.size v5 (X.take a) (some ⟨wy5.heap.size, 0, none⟩) 1 1 [(kx, (u : Int))] rfl rfl (V5.out.bl_ ((Bl.refl wy5).alloc_ _)) (by rw [List.length_take]; omega) (by simp; omega) rfl (by omega) (items_new wy5 _ _ _ _ (by simp)) ?_)
                    intro v6 wy6 hv6 hb6
                    have V6 := Lib.hid hv6
                    have B6 := Lib.hid (hb6 w5 (B5.out.alloc_ _) (Nat.le_refl _))
                    have z6 := B6.out.size
                    clear hv6 hb6 t0 t1
                    have hdr : X.drop a = [] := List.drop_of_length_le (by have := HMX.out; omega)
                    rcases Nat.lt_or_ge a e with hae | hae
                    · have hne : ¬ e = a := by omega
                      go_wp2_with (at_builtin; refine wp_cat_Item rfl (.tmp 83) (.tmp 86) rfl _ w5.heap.size v6 (X.take a ++ [(kx, (u : Int))]) _ _ _ (X.drop a) rfl (by first | rfl | simp [Act.eval, Act.put]) V6.out (by rw [List.length_append, List.length_take]; simp; omega) (by omega) (by rw [List.length_drop]; have := HMX.out; omega) (by omega) (fun h0 => absurd h0 (by rw [hdr]; simp [cs2])) ?_)
                      intro v7 wy7 hv7 hb7
                      have hv7 : OwnI wy7 w5.heap.size v7 (insI (kx, (u : Int)) X) := by rw [← HIA.out]; first | exact hv7 | simpa [hdr] using hv7
                      have B7 := Lib.hid (hb7 w5 B6.out (Nat.le_refl _))
                      obtain ⟨g7, c7, rfl, -, -⟩ := own_shapeI hv7 (List.length_pos_of_mem (ins_mem'.2 (.inl rfl)))
                      have V7 := Lib.hid hv7
                      clear hv7 hb7
                      go_wp2
                      go_roundw
                      case rel => exact ⟨j + 1, g7, _, c7, insI (kx, (u : Int)) X, by omega, by go_num, rfl, Lib.hid rfl, Lib.hid (by rw [HST.out, if_neg (Int.not_lt.2 HNG.out), ← HX.out]), Lib.hid (V7.out.low_ (by have := (B0.out.trans_ (I4.out.trans_ BQ.out)).size; omega)), BQ.out.trans_ (BA.out.trans_ (BZ5.out.trans_ B7.out))⟩
                      case measure => simp [intOf]; omega
                    · obtain rfl : a = e := by omega
                      go_wp2_with (at_builtin; refine wp_cat_Item rfl (.tmp 83) (.tmp 86) rfl _ w5.heap.size v6 (X.take a ++ [(kx, (u : Int))]) _ _ _ (X.drop a) rfl (by first | rfl | simp [Act.eval, Act.put]) V6.out (by rw [List.length_append, List.length_take]; simp; omega) (by omega) (by rw [List.length_drop]; have := HMX.out; omega) (by omega) (fun h0 => absurd h0 (by rw [hdr]; simp [cs2])) ?_)
                      intro v7 wy7 hv7 hb7
                      have hv7 : OwnI wy7 w5.heap.size v7 (insI (kx, (u : Int)) X) := by rw [← HIA.out]; first | exact hv7 | simpa [hdr] using hv7
                      have B7 := Lib.hid (hb7 w5 B6.out (Nat.le_refl _))
                      obtain ⟨g7, c7, rfl, -, -⟩ := own_shapeI hv7 (List.length_pos_of_mem (ins_mem'.2 (.inl rfl)))
                      have V7 := Lib.hid hv7
                      clear hv7 hb7
                      go_wp2
                      go_roundw
                      case rel => exact ⟨j + 1, g7, _, c7, insI (kx, (u : Int)) X, by omega, by go_num, rfl, Lib.hid rfl, Lib.hid (by rw [HST.out, if_neg (Int.not_lt.2 HNG.out), ← HX.out]), Lib.hid (V7.out.low_ (by have := (B0.out.trans_ (I4.out.trans_ BQ.out)).size; omega)), BQ.out.trans_ (BA.out.trans_ (BZ5.out.trans_ B7.out))⟩
                      case measure => simp [intOf]; omega
            · obtain rfl : j = k := by omega
              have hcap := own_capI OX.out
              obtain ⟨q, hq⟩ : ∃ q : Nat, q = min z.toNat m := ⟨_, rfl⟩
              have hmin : (if (m : Int) < z then (m : Int) else z) = (q : Int) := by rw [hq]; split <;> omega
              have hq0 : (0 : Int) ≤ (q : Int) := by omega
              have hqe : (q : Int) ≤ (e : Int) := by omega
              have hqm : q ≤ m := by omega
              have HQ := Lib.hid (show X.take q = nrL N L s V z from by
                rw [HM.out]
                have : X = nrAll N L s V := by unfold nrAll; rw [HX.out, HD.out, ← HK.out]
                rw [← this, hq, HMX.out]
                rcases Nat.le_total z.toNat X.length with h | h
                · rw [Nat.min_eq_left h]
                · rw [Nat.min_eq_right h, List.take_of_length_le (Nat.le_refl _), List.take_of_length_le h])
              clear hq hbl
              go_wp2
              go_ret
              refine ⟨_, rfl, ?_, B0.out.trans_ (I4.out.trans_ BQ.out)⟩
              rw [← HQ.out]
              exact (own_takeI HMX.out OX.out hqm (by simp)).low_ (by omega)

end Go.Proofs.Ytlddileiecnkjaa

set_option linter.unusedSimpArgs false
set_option linter.unusedVariables false
namespace Go.Proofs.Ytlddileiecnkjaa
open Go.RowKit

set_option maxRecDepth 100000 in
set_option maxHeartbeats 1000000 in
theorem indexN_any (A : Option Addr) (n c : Nat) (V : List Int) (hn : n = V.length) (x : Int) (w : World) (hm : n ≤ 1048576) (H1 : IntsAt w w.heap.size A V) :
    Calls Try.prog 137 #[.slice A n c, .int .i64 x] w fun e w' => ∃ r : Int, e = .returned (.int .i64 r) ∧ (0 ≤ r ↔ x ∈ V) ∧ Bl w w' := by
  have K1 := Lib.hid H1
  have HN := Lib.hid hn
  clear H1 hn
  go_enter Try.func137, Try.ntmps137
  go_wp2_with fail
  go_loopw [8] (fun i wr => ∃ k : Nat, k ≤ n ∧ i = .int .i64 k ∧ Bl w wr ∧ x ∉ V.take k) (fun i _ => n - (intOf i).toNat)
  case atStart => exact ⟨0, by omega, rfl, Bl.refl _, by simp⟩
  case round =>
    obtain ⟨k, hk, rfl, hbl, hno⟩ := hrel
    have NO := Lib.hid hno
    clear hno
    by_cases hlt : k < n
    · have hkl : k < V.length := by have := HN.out; omega
      obtain ⟨g1, o1, rfl, hg1, hc1⟩ := K1.out.cell (by omega)
      have p1 := ((bcell hbl).1 _ _ hg1).trans (hc1 k hkl)
      have MEM := Lib.hid (List.getElem_mem hkl)
      have TK := Lib.hid (List.take_succ_eq_append_getElem hkl)
      have i0 : (0 : Int) ≤ (k : Int) := by omega
      have i1 : (k : Int) < (n : Int) := by omega
      clear hc1
      generalize V[k] = y at *
      by_cases hxy : x = y
      · subst hxy
        go_wp2
        go_ret
        exact ⟨_, rfl, ⟨fun _ => MEM.out, fun _ => by omega⟩, hbl⟩
      · have hb : (x == y) = false := by simpa using hxy
        have NX := Lib.hid (show x ∉ V.take (k + 1) from by
          rw [TK.out, List.mem_append]
          rintro (h | h)
          · exact NO.out h
          · exact hxy (by simpa using h))
        go_wp2
        go_roundw
        case rel => exact ⟨k + 1, by omega, by go_num, hbl, NX.out⟩
        case measure => simp [intOf]; omega
    · have NX := Lib.hid (show x ∉ V from by
        have := NO.out
        rwa [List.take_of_length_le (by have := HN.out; omega)] at this)
      go_wp2
      go_ret
      exact ⟨-1, rfl, ⟨fun h => by omega, fun h => absurd h NX.out⟩, hbl⟩

set_option maxRecDepth 100000 in
set_option maxHeartbeats 1000000 in
theorem containsN_any (A : Option Addr) (n c : Nat) (V : List Int) (hn : n = V.length) (x : Int) (w : World) (hm : n ≤ 1048576) (H1 : IntsAt w w.heap.size A V) :
    Calls Try.prog 103 #[.slice A n c, .int .i64 x] w fun e w' => e = .returned (.bool (decide (x ∈ V))) ∧ Bl w w' := by
  have K1 := Lib.hid H1
  have HN := Lib.hid hn
  have HM := Lib.hid hm
  clear H1 hn hm
  go_enter Try.func103, Try.ntmps103
  go_wp2_with fail
  refine (indexN_any A n c V HN.out x _ HM.out K1.out).mono ?_
  rintro e w1 ⟨r, rfl, hr, hb⟩
  have HB := Lib.hid hb
  have HR := Lib.hid hr
  clear hr hb
  by_cases h0 : 0 ≤ r
  · have hd : decide (0 ≤ r) = true := by simpa using h0
    have HX := Lib.hid (decide_eq_true (HR.out.1 h0))
    go_wp2
    go_ret
    exact ⟨ret_bool HX.out.symm, HB.out⟩
  · have hd : decide (0 ≤ r) = false := by simpa using h0
    have HX := Lib.hid (decide_eq_false (fun h => h0 (HR.out.2 h)))
    go_wp2
    go_ret
    exact ⟨ret_bool HX.out.symm, HB.out⟩


end Go.Proofs.Ytlddileiecnkjaa

set_option linter.unusedSimpArgs false
set_option linter.unusedVariables false
namespace Go.Proofs.Ytlddileiecnkjaa
open Go.ChangeShapes Go.WideShapes Go.ChangeAt Go.RowKit




end Go.Proofs.Ytlddileiecnkjaa

set_option linter.unusedSimpArgs false
set_option linter.unusedVariables false
namespace Go.Proofs.Ytlddileiecnkjaa
open Go.RowKit

/-- From A on slices lie one behind the other, and each reads as its list of numbers; all of them lie in blocks from b on, below B. -/
def RowsAt (w : World) (b B : Nat) (A : Option Addr) (R : List (List Int)) : Prop :=
  0 < R.length → ∃ g off, A = some ⟨g, off, none⟩ ∧ (b ≤ g ∧ g < B) ∧ ∀ j (h : j < R.length), ∃ A' c', w.cell? ⟨g, off + j, none⟩ = some (.slice A' R[j].length c') ∧ IntsAt w B A' R[j] ∧ ∀ g', blockOf A' = some g' → 0 < R[j].length → b ≤ g'
theorem RowsAt.keep {w w' : World} {b B : Nat} {A : Option Addr} {R : List (List Int)} (h : RowsAt w b B A R) (hk : ∀ k o, b ≤ k → k < B → w'.cell? ⟨k, o, none⟩ = w.cell? ⟨k, o, none⟩) : RowsAt w' b B A R := fun h0 => by
  obtain ⟨g, off, e, hg, hc⟩ := h h0
  refine ⟨g, off, e, hg, fun j hj => ?_⟩
  obtain ⟨A', c', h1, h2, h3⟩ := hc j hj
  refine ⟨A', c', by rw [hk _ _ hg.1 hg.2]; exact h1, fun hp => ?_, h3⟩
  obtain ⟨g', off', rfl, hg', hc'⟩ := h2 hp
  exact ⟨g', off', rfl, hg', fun i hi => by rw [hk _ _ (h3 g' rfl (by rw [csI_len] at hp; exact hp)) hg']; exact hc' i hi⟩
theorem RowsAt.more {w : World} {b B B' : Nat} {A : Option Addr} {R : List (List Int)} (h : RowsAt w b B A R) (hB : B ≤ B') : RowsAt w b B' A R := fun h0 => by
  obtain ⟨g, off, e, hg, hc⟩ := h h0
  refine ⟨g, off, e, ⟨hg.1, by omega⟩, fun j hj => ?_⟩
  obtain ⟨A', c', h1, h2, h3⟩ := hc j hj
  exact ⟨A', c', h1, h2.more hB, h3⟩
theorem RowsAt.low {w : World} {b b' B : Nat} {A : Option Addr} {R : List (List Int)} (h : RowsAt w b B A R) (hb : b' ≤ b) : RowsAt w b' B A R := fun h0 => by
  obtain ⟨g, off, e, hg, hc⟩ := h h0
  refine ⟨g, off, e, ⟨by omega, hg.2⟩, fun j hj => ?_⟩
  obtain ⟨A', c', h1, h2, h3⟩ := hc j hj
  exact ⟨A', c', h1, h2, fun g' e' hp => Nat.le_trans hb (h3 g' e' hp)⟩
theorem RowsAt.bl {w w' : World} {b : Nat} {A : Option Addr} {R : List (List Int)} (h : RowsAt w b w.heap.size A R) (hb : Bl w w') : RowsAt w' b w'.heap.size A R :=
  (h.keep fun k o _ hk => (bcell hb).1 k o hk).more hb.size
theorem RowsAt.nil_ (w : World) (b B : Nat) (A : Option Addr) : RowsAt w b B A [] := fun h => absurd h (by simp)
theorem RowsAt.turn {w w' : World} {b B : Nat} {A : Option Addr} {R : List (List Int)} {S : Nat → Prop} (h : RowsAt w b B A R) (hB : B ≤ w.heap.size) (k : Turn S w w') (hS : ∀ g, b ≤ g → g < B → ¬ S g) : RowsAt w' b B A R :=
  h.keep fun g o h1 h2 => k.cell (by omega) (hS g h1 h2) o
/-- One of the rows. -/
theorem RowsAt.row {w : World} {b B : Nat} {A : Option Addr} {R : List (List Int)} (h : RowsAt w b B A R) {j : Nat} (hj : j < R.length) :
    ∃ g off A' c', A = some ⟨g, off, none⟩ ∧ g < B ∧ w.cell? ⟨g, off + j, none⟩ = some (.slice A' R[j].length c') ∧ IntsAt w B A' R[j] := by
  obtain ⟨g, off, e, hg, hc⟩ := h (by omega)
  obtain ⟨A', c', h1, h2, -⟩ := hc j hj
  exact ⟨g, off, A', c', e, hg.2, h1, h2⟩

end Go.Proofs.Ytlddileiecnkjaa
