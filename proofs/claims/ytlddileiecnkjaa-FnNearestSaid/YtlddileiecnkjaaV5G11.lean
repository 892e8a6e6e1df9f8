/-
  What is proved here: how far all nodes are, as the model reckons it; DistFrom and DistOf of the model. No conditions beyond those that each theorem states.
-/
import Derived.Test.YtlddileiecnkjaaV5G04
import Derived.Test.YtlddileiecnkjaaV5G10
import Derived.Deep.LoopGhost
import Derived.IntWalk
set_option linter.unusedSimpArgs false
set_option linter.unusedVariables false
namespace Go.Proofs.Ytlddileiecnkjaa
open Go.RowKit

theorem OwnN.snoc {w : World} {B : Nat} {v : Value} {V : List Int} {x : Int} {n : Nat} (hn : n = V.length) (h : w.ownsRow B 2 1 v (n + 1) (csI V ++ [.int .i64 x])) : OwnN w B v (V ++ [x]) := by
  unfold OwnN Owns
  rw [List.length_append, ← hn]
  simpa [csI] using h
/-- What holds where a word is true, and where it is not. -/
def IfT (b : Bool) (P : Prop) : Prop := b = true → P
def IfF (b : Bool) (P : Prop) : Prop := b = false → P
/-- A list of numbers of one's own, in a block. -/
def RowN (w : World) (g c : Nat) (V : List Int) : Prop := OwnN w g (.slice (some ⟨g, 0, none⟩) V.length c) V
theorem RowN.cells {w : World} {g c : Nat} {V : List Int} (h : RowN w g c V) : (∀ o, w.frozen? ⟨g, o, none⟩ = false) ∧ (∀ k (hk : k < V.length), w.cell? ⟨g, k, none⟩ = some (.int .i64 V[k])) := by
  refine ⟨fun o => World.ownsRow.frozenAt h o, fun k hk => ?_⟩
  rw [World.ownsRow.cellAt h k (by omega), List.getElem?_eq_getElem (by rw [csI_len]; exact hk), csI_at]
theorem RowN.bl {w w' : World} {g c : Nat} {V : List Int} (h : RowN w g c V) (hb : Bl w w') : RowN w' g c V := OwnN.bl h hb
theorem RowN.set {w : World} {g c : Nat} {V : List Int} (h : RowN w g c V) (k : Nat) (x : Int) : RowN (w.setCell ⟨g, k, none⟩ (.int .i64 x)) g c (V.set k x) := by
  have h' := (Owns.stored h k (.int .i64 x)).1
  unfold RowN OwnN
  rw [List.length_set]
  have e : csI (V.set k x) = (csI V).set k (.int .i64 x) := by simp [csI, List.map_set]
  rw [e]
  exact h'

theorem OwnN.toRow {w : World} {B : Nat} {v : Value} {V : List Int} (h : OwnN w B v V) (h0 : 0 < V.length) : ∃ g c, v = .slice (some ⟨g, 0, none⟩) V.length c ∧ B ≤ g ∧ g < w.heap.size ∧ RowN w g c V := by
  obtain ⟨A, c, rfl, -, -, -, h3⟩ := Owns.shape h
  obtain ⟨g, rfl, hB, hg, -, -⟩ := h3 h0
  refine ⟨g, c, rfl, hB, hg, h.1, ?_⟩
  rcases h.2 with ⟨e, h1⟩ | ⟨g', cap, cur, e, hB', r⟩
  · simp at e
  · have e' := e
    injection e with e1 e2 e3
    injection e1 with e1
    injection e1 with e1
    exact .inr ⟨g', cap, cur, e', by omega, r⟩
theorem RowN.own {w : World} {g c B : Nat} {V : List Int} (h : RowN w g c V) (hB : B ≤ g) : OwnN w B (.slice (some ⟨g, 0, none⟩) V.length c) V := OwnN.low h hB
theorem RowN.lt {w : World} {g c : Nat} {V : List Int} (h : RowN w g c V) : g < w.heap.size := (Owns.lt_ h g rfl).2

set_option maxRecDepth 100000 in
set_option maxHeartbeats 4000000 in
theorem l3Dist_any (N s : Int) (A : Option Addr) (n c : Nat) (L : List Arc3) (hn : n = L.length) (ho : okB N L = true) (h0 : 0 ≤ s) (h1 : s < N) (w : World) (hm : n ≤ 1048576) (H1 : ArcsAt w w.heap.size A L) :
    Calls Try.prog 90 #[.agg #[.int .i64 N, .slice A n c], .int .i64 s] w (NumsMade (distL N L s) w) := by
  obtain ⟨i0, hi, hz0, hz1, hz2⟩ := info_parts infoInt
  have I0 := Lib.hid hi
  have I1 := Lib.hid hz0
  have I2 := Lib.hid hz1
  have I3 := Lib.hid hz2
  have K1 := Lib.hid H1
  have HN := Lib.hid hn
  have HO := Lib.hid ho
  have hN24 := (okB_elim ho).2.1
  have hL150 := (okB_elim ho).2.2.1
  obtain ⟨m, rfl⟩ : ∃ m : Nat, N = m := ⟨N.toNat, by omega⟩
  obtain ⟨q, rfl⟩ : ∃ q : Nat, s = q := ⟨s.toNat, by omega⟩
  have hm24 : m ≤ 24 := by omega
  have hqm : q < m := by omega
  clear H1 hn hi hz0 hz1 hz2 ho
  go_enter Try.func90, Try.ntmps90
  go_wp2_with fail
  go_loopw [5, 6] (fun v i wr => ∃ k : Nat, k ≤ m ∧ i = .int .i64 k ∧ OwnN wr (w.heap.size + 1) v (List.replicate k (-1)) ∧ Bl (w.alloc (.cells #[.int .i64 (m : Int), .slice A n c] 33)) wr) (fun _ i _ => m - (intOf i).toNat)
  case atStart =>
    refine ⟨0, by omega, rfl, ?_, (by repeat' (first | exact Bl.refl _ | with_reducible assumption | with_reducible refine Bl.drew_ ?_ | with_reducible refine Bl.drewN_ ?_ _ | with_reducible refine Bl.alloc_ ?_ _ | with_reducible refine Bl.trans_ ?_ (by assumption) | with_reducible refine Bl.trans_ ?_ (And.left (by assumption))))⟩
    have h := World.ownsRow_made (base := w.heap.size + 1) (e := 2) (size := 1) (w.alloc (.cells #[.int .i64 (m : Int), .slice A n c] 33)) #[] 0 (by simp) (by unfold maxLen; omega) rfl
    rw [World.size_alloc] at h
    exact h
  case round =>
    obtain ⟨k, hk, rfl, hown, hbl⟩ := hrel
    have hs := hbl.size
    simp only [World.size_alloc] at hs
    obtain ⟨q0, q1⟩ := box2 hbl
    have O := Lib.hid hown
    have HB := Lib.hid hbl
    clear hown hbl
    by_cases hlt : k < m
    · go_wp2_with (at_builtin; refine wpList_append_own _ rfl (.tmp 18) (.tmp 19) _ rfl (w.heap.size + 1) 2 i0 _ 1 8 Try.underlying24 I0.out I1.out I2.out I3.out rfl (by decide) _ (List.replicate k (-1)).length (csI (List.replicate k (-1))) rfl (World.ownsRow.alloc O.out _) ⟨wr.heap.size, 0, none⟩ 1 1 [.int .i64 (-1)] rfl rfl ?c0 (by simp [Value.oneCell']) ?c3 ?c4 ?c5 ?_)
      case c0 => 
        intro j u hj
        match j, hj with
        | 0, hj => simp at hj; subst hj; simp [Addr.add, go_sem]
        | (j + 1), hj => simp at hj
      case c3 => unfold maxLen; simp; omega
      case c4 => simp; omega
      case c5 => simp; omega
      intro v' w1 hown' hgrow _
      have O1 := Lib.hid (OwnN.snoc (V := List.replicate k (-1)) (x := -1) (n := k) (by simp) (by simpa using hown'))
      have hb1 : Bl (w.alloc (.cells #[.int .i64 (m : Int), .slice A n c] 33)) w1 := (HB.out.alloc_ _).grown_ hgrow (fun g hg => by have := (Owns.lt O.out g hg).1; simpa using this)
      have hb1' := Lib.hid hb1
      obtain ⟨q2, q3⟩ := box2 hb1
      clear hown' hgrow q0 q1 hb1
      go_wp2
      go_roundw
      case rel => exact ⟨k + 1, by omega, by go_num, by rw [List.replicate_succ']; exact O1.out, hb1'.out⟩
      case measure => simp [intOf]; omega
    · obtain rfl : k = m := by omega
      obtain ⟨g, c', rfl, hBg, hgl, hrow⟩ := O.out.toRow (by simp; omega)
      have hcl := hrow.cells
      have p0 := hcl.2 q (by simp; exact hqm)
      have p1 := hcl.1 q
      rw [List.getElem_replicate] at p0
      rw [List.length_replicate]
      have hq0 : (0 : Int) ≤ (q : Int) := by omega
      have hq1 : (q : Int) < (k : Int) := by omega
      have R0 := Lib.hid (show RowN (wr.setCell ⟨g, q, none⟩ (.int .i64 0)) g c' (startD k q) from by
        have := hrow.set q 0
        unfold startD
        simpa using this)
      have HB0 := Lib.hid (show Bl (w.alloc (.cells #[.int .i64 (k : Int), .slice A n c] 33)) (wr.setCell ⟨g, q, none⟩ (.int .i64 0)) from HB.out.set_ (by simp; omega) _)
      clear hcl hrow
      go_wp2_with fail
      clear p0 p1 q0 q1
      go_loopg [7] (sumF potF (startD k q) + 1) (fun t mo wr => ∃ (D : List Int) (b : Bool), mo = .bool b ∧ Hid (Rel k L q D) ∧ Hid (RowN wr g c' D) ∧ Hid (Bl (w.alloc (.cells #[.int .i64 (k : Int), .slice A n c] 33)) wr) ∧ IfT b (sumF potF D + 1 ≤ t) ∧ IfF b (IsDist k L q D))
      case atStart => exact ⟨startD k q, true, rfl, Lib.hid (Rel.start_ (by omega) (by omega)), R0, HB0, fun _ => Nat.le_refl _, fun h => nomatch h⟩
      case round =>
        obtain ⟨D, b, rfl, RE, RO, BB, po, di⟩ := hrel
        have PO := Lib.hid po
        have DI := Lib.hid di
        clear po di
        have hDl : D.length = k := by have := RE.out.len; simpa using this
        have HDL := Lib.hid hDl
        clear hDl
        cases b with
        | false =>
          go_wp2_with fail
          go_ret
          have hD := distL_of (arcsIn_of_ok HO.out) (by omega) (by omega) (by omega) (DI.out rfl)
          refine ⟨_, rfl, ?_, (Bl.alloc_ (Bl.refl w) _).trans_ BB.out⟩
          rw [← hD]
          have := RO.out.own (B := w.heap.size) (by omega)
          rw [HDL.out] at this
          exact this
        | true =>
          obtain ⟨q0, q1⟩ := box2 BB.out
          go_wp2_with fail
          clear q0 q1
          go_loopw [7, 8] (fun mo i wr => ∃ (j : Nat) (E : List Int) (b : Bool), j ≤ n ∧ i = .int .i64 j ∧ mo = .bool b ∧ Hid (Rel k L q E) ∧ Hid (RowN wr g c' E) ∧ Hid (Bl (w.alloc (.cells #[.int .i64 (k : Int), .slice A n c] 33)) wr) ∧
            IfT b (sumF potF E < sumF potF D) ∧ IfF b (E = D ∧ ∀ t (h : t < L.length), t < j → nearer D L[t] = false)) (fun _ i _ => n - (intOf i).toNat)
          case atStart => exact ⟨0, D, false, by omega, rfl, rfl, RE, RO, BB, (fun h => nomatch h), fun _ => ⟨rfl, fun t h h' => absurd h' (by omega)⟩⟩
          case round =>
            obtain ⟨j, E, b, hj, rfl, rfl, RE2, RO2, BB2, less, same⟩ := hrel
            have LESS := Lib.hid less
            have SAME := Lib.hid same
            clear less same
            obtain ⟨q0, q1⟩ := box2 BB2.out
            have hEl : E.length = k := by have := RE2.out.len; simpa using this
            have HEL := Lib.hid hEl
            clear hEl
            by_cases hlt : j < n
            · have hjl : j < L.length := by have := HN.out; omega
              have hbw : Bl w wr := (Bl.alloc_ (Bl.refl w) _).trans_ BB2.out
              obtain ⟨g1, o1, rfl, hg1, hc1⟩ := K1.out (by omega)
              obtain ⟨p1, p2, p3⟩ := hc1 j hjl
              rw [← (bcell hbw).1 _ _ hg1] at p1 p2 p3
              obtain ⟨a0, a1, a2, a3, a4, a5⟩ := arcsIn_of_ok HO.out L[j] (List.getElem_mem hjl)
              have AM := Lib.hid (show L[j] ∈ L from List.getElem_mem hjl)
              have hgl2 := RO2.out.lt
              have hg1l : g1 < wr.heap.size := Nat.lt_of_lt_of_le hg1 hbw.size
              clear hc1 hbw
              generalize hAA : L[j] = aa at *
              obtain ⟨x, y, z⟩ := aa
              simp only at a0 a1 a2 a3 a4 a5 p1 p2 p3
              obtain ⟨u, rfl⟩ : ∃ u : Nat, x = u := ⟨x.toNat, by omega⟩
              obtain ⟨v, rfl⟩ : ∃ v : Nat, y = v := ⟨y.toNat, by omega⟩
              have huk : u < k := by omega
              have hvk : v < k := by omega
              obtain ⟨hfz, hcl⟩ := RO2.out.cells
              have c1 := hcl u (by rw [HEL.out]; exact huk)
              have c2 := hcl v (by rw [HEL.out]; exact hvk)
              have f2 := hfz v
              clear hfz hcl
              have e1 : E[u]'(by rw [HEL.out]; exact huk) = dAt E (u : Int) := by simp [dAt, HEL.out, huk]
              have e2 : E[v]'(by rw [HEL.out]; exact hvk) = dAt E (v : Int) := by simp [dAt, HEL.out, hvk]
              rw [e1] at c1
              rw [e2] at c2
              have b1 := RE2.out.bound (by omega) (u : Int)
              have b2 := RE2.out.bound (by omega) (v : Int)
              have b3 := RE2.out.low (u : Int)
              have b4 := RE2.out.low (v : Int)
              have HA := Lib.hid hAA
              clear e1 e2 hAA
              have hstep : nearer E ((u : Int), (v : Int), z) = true → Rel k L q (E.set v (dAt E (u : Int) + z)) ∧ sumF potF (E.set v (dAt E (u : Int) + z)) < sumF potF E := fun h => by
                have := RE2.out.step (arcsIn_of_ok HO.out) (by omega) AM.out h
                simpa using this
              have HST := Lib.hid hstep
              clear hstep
              generalize hdu : dAt E (u : Int) = du at *
              generalize hdv : dAt E (v : Int) = dv at *
              have hnr : nearer E ((u : Int), (v : Int), z) = decide (0 ≤ du ∧ (dv < 0 ∨ du + z < dv)) := by
                unfold nearer
                simp only [hdu, hdv]
              have HNR := Lib.hid hnr
              have no : nearer E ((u : Int), (v : Int), z) = false → IfF b (E = D ∧ ∀ t (h : t < L.length), t < j + 1 → nearer D L[t] = false) := fun hn hb => by
                obtain ⟨e, h⟩ := SAME.out hb
                refine ⟨e, fun t ht htj => ?_⟩
                rcases Nat.lt_or_ge t j with h' | h'
                · exact h t ht h'
                · obtain rfl : t = j := by omega
                  rw [HA.out, ← e]
                  exact hn
              have NO := Lib.hid no
              clear hdu hdv hnr no AM HA
              have i1 : (0 : Int) ≤ (u : Int) := by omega
              have i2 : (u : Int) < (k : Int) := by omega
              have i3 : (0 : Int) ≤ (v : Int) := by omega
              have i4 : (v : Int) < (k : Int) := by omega
              by_cases hdn : du < 0
              · have hnf : nearer E ((u : Int), (v : Int), z) = false := by rw [HNR.out]; simp; omega
                have NF := Lib.hid (NO.out hnf)
                clear hnf
                go_wp2_with fail
                go_roundw
                case rel => exact ⟨j + 1, E, b, by omega, by go_num, rfl, RE2, Lib.hid (RO2.out.bl (by repeat' (first | exact Bl.refl _ | with_reducible assumption | with_reducible refine Bl.drew_ ?_ | with_reducible refine Bl.drewN_ ?_ _ | with_reducible refine Bl.alloc_ ?_ _ | with_reducible refine Bl.trans_ ?_ (by assumption) | with_reducible refine Bl.trans_ ?_ (And.left (by assumption))))), Lib.hid (BB2.out.trans_ (by repeat' (first | exact Bl.refl _ | with_reducible assumption | with_reducible refine Bl.drew_ ?_ | with_reducible refine Bl.drewN_ ?_ _ | with_reducible refine Bl.alloc_ ?_ _ | with_reducible refine Bl.trans_ ?_ (by assumption) | with_reducible refine Bl.trans_ ?_ (And.left (by assumption))))), LESS.out, NF.out⟩
                case measure => simp [intOf]; omega
              · by_cases hnv : dv < 0
                · have hyes : nearer E ((u : Int), (v : Int), z) = true := by rw [HNR.out]; simp; omega
                  obtain ⟨hre, hpo⟩ := HST.out hyes
                  have RE3 := Lib.hid hre
                  have LS3 := Lib.hid (show sumF potF (E.set v (du + z)) < sumF potF D from by
                    cases hb : b with
                    | true => exact Nat.lt_trans hpo (LESS.out hb)
                    | false => rw [← (SAME.out hb).1]; exact hpo)
                  have hw : IntKind.i64.wrap (du + z) = du + z := IntWalk.i64_in _ (by omega)
                  clear hyes hre hpo
                  go_wp2_with fail
                  go_quiet (fail)
                  clear hw
                  go_wp2_with fail
                  go_roundw
                  case rel => exact ⟨j + 1, E.set v (du + z), true, by omega, by go_num, rfl, RE3, Lib.hid (RowN.set (RO2.out.bl (by repeat' (first | exact Bl.refl _ | with_reducible assumption | with_reducible refine Bl.drew_ ?_ | with_reducible refine Bl.drewN_ ?_ _ | with_reducible refine Bl.alloc_ ?_ _ | with_reducible refine Bl.trans_ ?_ (by assumption) | with_reducible refine Bl.trans_ ?_ (And.left (by assumption))))) v _), Lib.hid (Bl.set_ (BB2.out.trans_ (by repeat' (first | exact Bl.refl _ | with_reducible assumption | with_reducible refine Bl.drew_ ?_ | with_reducible refine Bl.drewN_ ?_ _ | with_reducible refine Bl.alloc_ ?_ _ | with_reducible refine Bl.trans_ ?_ (by assumption) | with_reducible refine Bl.trans_ ?_ (And.left (by assumption))))) (by simp; omega) _), (fun _ => LS3.out), fun h => nomatch h⟩
                  case measure => simp [intOf]; omega
                · by_cases hln : du + z < dv
                  · have hyes : nearer E ((u : Int), (v : Int), z) = true := by rw [HNR.out]; simp; omega
                    obtain ⟨hre, hpo⟩ := HST.out hyes
                    have RE3 := Lib.hid hre
                    have LS3 := Lib.hid (show sumF potF (E.set v (du + z)) < sumF potF D from by
                      cases hb : b with
                      | true => exact Nat.lt_trans hpo (LESS.out hb)
                      | false => rw [← (SAME.out hb).1]; exact hpo)
                    have hw : IntKind.i64.wrap (du + z) = du + z := IntWalk.i64_in _ (by omega)
                    clear hyes hre hpo
                    go_wp2_with fail
                    go_quiet (fail)
                    clear hw
                    go_wp2_with fail
                    go_roundw
                    case rel => exact ⟨j + 1, E.set v (du + z), true, by omega, by go_num, rfl, RE3, Lib.hid (RowN.set (RO2.out.bl (by repeat' (first | exact Bl.refl _ | with_reducible assumption | with_reducible refine Bl.drew_ ?_ | with_reducible refine Bl.drewN_ ?_ _ | with_reducible refine Bl.alloc_ ?_ _ | with_reducible refine Bl.trans_ ?_ (by assumption) | with_reducible refine Bl.trans_ ?_ (And.left (by assumption))))) v _), Lib.hid (Bl.set_ (BB2.out.trans_ (by repeat' (first | exact Bl.refl _ | with_reducible assumption | with_reducible refine Bl.drew_ ?_ | with_reducible refine Bl.drewN_ ?_ _ | with_reducible refine Bl.alloc_ ?_ _ | with_reducible refine Bl.trans_ ?_ (by assumption) | with_reducible refine Bl.trans_ ?_ (And.left (by assumption))))) (by simp; omega) _), (fun _ => LS3.out), fun h => nomatch h⟩
                    case measure => simp [intOf]; omega
                  · have hnf : nearer E ((u : Int), (v : Int), z) = false := by rw [HNR.out]; simp; omega
                    have NF := Lib.hid (NO.out hnf)
                    have hw : IntKind.i64.wrap (du + z) = du + z := IntWalk.i64_in _ (by omega)
                    clear hnf
                    go_wp2_with fail
                    go_quiet (fail)
                    clear hw
                    go_wp2_with fail
                    go_roundw
                    case rel => exact ⟨j + 1, E, b, by omega, by go_num, rfl, RE2, Lib.hid (RO2.out.bl (by repeat' (first | exact Bl.refl _ | with_reducible assumption | with_reducible refine Bl.drew_ ?_ | with_reducible refine Bl.drewN_ ?_ _ | with_reducible refine Bl.alloc_ ?_ _ | with_reducible refine Bl.trans_ ?_ (by assumption) | with_reducible refine Bl.trans_ ?_ (And.left (by assumption))))), Lib.hid (BB2.out.trans_ (by repeat' (first | exact Bl.refl _ | with_reducible assumption | with_reducible refine Bl.drew_ ?_ | with_reducible refine Bl.drewN_ ?_ _ | with_reducible refine Bl.alloc_ ?_ _ | with_reducible refine Bl.trans_ ?_ (by assumption) | with_reducible refine Bl.trans_ ?_ (And.left (by assumption))))), LESS.out, NF.out⟩
                    case measure => simp [intOf]; omega
            · go_wp2_with fail
              go_roundg (if b = true then sumF potF E + 1 else 0)
              case rel =>
                refine ⟨E, b, rfl, RE2, RO2, BB2, fun h => by rw [h]; simp, fun h => ?_⟩
                obtain ⟨e, hx⟩ := SAME.out h
                refine RE2.out.done (arcsIn_of_ok HO.out) fun a ha => ?_
                obtain ⟨t, ht, rfl⟩ := List.mem_iff_getElem.1 ha
                rw [e]
                exact hx t ht (by have := HN.out; omega)
              case measure =>
                have := PO.out rfl
                cases hb : b with
                | true => have := LESS.out hb; simp; omega
                | false => simp; omega

end Go.Proofs.Ytlddileiecnkjaa

set_option linter.unusedSimpArgs false
set_option linter.unusedVariables false
namespace Go.Proofs.Ytlddileiecnkjaa
open Go.RowKit

theorem nodeB_ok {N v : Int} {L : List Arc3} (ho : okB N L = true) : nodeB N v = decide (0 ≤ v ∧ v < N) := by
  obtain ⟨h1, h2, -⟩ := okB_elim ho
  unfold nodeB inB
  have : wrap64 (N - 1) = N - 1 := by unfold wrap64; omega
  rw [this, Bool.eq_iff_iff]
  simp only [decide_eq_true_eq]
  omega



end Go.Proofs.Ytlddileiecnkjaa
