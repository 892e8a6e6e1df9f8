/-
  What is proved here: how far all nodes are, as the model reckons it; plain facts on heaps as lists of pairs: up, down, picking the least, order; contracts of the laws' small functions on items and on slices of items; items that are copied, marked, and held against their marks; contracts of less, of the place above, and of the exchange of two items, on both sides. No conditions beyond those that each theorem states.
-/
import Derived.Test.YtlddileiecnkjaaV9G05
import Derived.Test.YtlddileiecnkjaaV9G02
import Derived.Deep.LoopGhost
import Derived.IntWalk
import Derived.Test.YtlddileiecnkjaaV9G01
import Derived.BigRegion
set_option linter.unusedSimpArgs false
set_option linter.unusedVariables false
namespace Go.Proofs.Ytlddileiecnkjaa
open Go.RowKit

theorem OwnN.snoc {w : World} {B : Nat} {v : Value} {V : List Int} {x : Int} {n : Nat} (hn : n = V.length) (h : w.ownsRow B 2 1 v (n + 1) (csI V ++ [.int .i64 x])) : OwnN w B v (V ++ [x]) := by
  unfold OwnN Owns
  rw [List.length_append, ← hn]
  simpa [csI] using h
/-- What holds where a word is true, and where it is not. -/
def IfT (b : Bool) (P : Prop) : Prop := b = true → P
def IfF (b : Bool) (P : Prop) : Prop := b = false → P
/-- A list of numbers of one's own, in a block. -/
def RowN (w : World) (g c : Nat) (V : List Int) : Prop := OwnN w g (.slice (some ⟨g, 0, none⟩) V.length c) V
theorem RowN.cells {w : World} {g c : Nat} {V : List Int} (h : RowN w g c V) : (∀ o, w.frozen? ⟨g, o, none⟩ = false) ∧ (∀ k (hk : k < V.length), w.cell? ⟨g, k, none⟩ = some (.int .i64 V[k])) := by
  refine ⟨fun o => World.ownsRow.frozenAt h o, fun k hk => ?_⟩
  rw [World.ownsRow.cellAt h k (by omega), List.getElem?_eq_getElem (by rw [csI_len]; exact hk), csI_at]
theorem RowN.bl {w w' : World} {g c : Nat} {V : List Int} (h : RowN w g c V) (hb : Bl w w') : RowN w' g c V := OwnN.bl h hb
theorem RowN.set {w : World} {g c : Nat} {V : List Int} (h : RowN w g c V) (k : Nat) (x : Int) : RowN (w.setCell ⟨g, k, none⟩ (.int .i64 x)) g c (V.set k x) := by
  have h' := (Owns.stored h k (.int .i64 x)).1
  unfold RowN OwnN
  rw [List.length_set]
  have e : csI (V.set k x) = (csI V).set k (.int .i64 x) := by simp [csI, List.map_set]
  rw [e]
  exact h'

theorem OwnN.toRow {w : World} {B : Nat} {v : Value} {V : List Int} (h : OwnN w B v V) (h0 : 0 < V.length) : ∃ g c, v = .slice (some ⟨g, 0, none⟩) V.length c ∧ B ≤ g ∧ g < w.heap.size ∧ RowN w g c V := by
  obtain ⟨A, c, rfl, -, -, -, h3⟩ := Owns.shape h
  obtain ⟨g, rfl, hB, hg, -, -⟩ := h3 h0
  refine ⟨g, c, rfl, hB, hg, h.1, ?_⟩
  rcases h.2 with ⟨e, h1⟩ | ⟨g', cap, cur, e, hB', r⟩
  · simp at e
  · have e' := e
    injection e with e1 e2 e3
    injection e1 with e1
    injection e1 with e1
    exact .inr ⟨g', cap, cur, e', by omega, r⟩
theorem RowN.own {w : World} {g c B : Nat} {V : List Int} (h : RowN w g c V) (hB : B ≤ g) : OwnN w B (.slice (some ⟨g, 0, none⟩) V.length c) V := OwnN.low h hB
theorem RowN.lt {w : World} {g c : Nat} {V : List Int} (h : RowN w g c V) : g < w.heap.size := (Owns.lt_ h g rfl).2

set_option maxRecDepth 100000 in
set_option maxHeartbeats 4000000 in
theorem l3Dist_any (N s : Int) (A : Option Addr) (n c : Nat) (L : List Arc3) (hn : n = L.length) (ho : okB N L = true) (h0 : 0 ≤ s) (h1 : s < N) (w : World) (hm : n ≤ 1048576) (H1 : ArcsAt w w.heap.size A L) :
    Calls Try.prog 90 #[.agg #[.int .i64 N, .slice A n c], .int .i64 s] w (NumsMade (distL N L s) w) := by
  obtain ⟨i0, hi, hz0, hz1, hz2⟩ := info_parts infoInt
  have I0 := Lib.hid hi
  have I1 := Lib.hid hz0
  have I2 := Lib.hid hz1
  have I3 := Lib.hid hz2
  have K1 := Lib.hid H1
  have HN := Lib.hid hn
  have HO := Lib.hid ho
  have hN24 := (okB_elim ho).2.1
  have hL150 := (okB_elim ho).2.2.1
  obtain ⟨m, rfl⟩ : ∃ m : Nat, N = m := ⟨N.toNat, by omega⟩
  obtain ⟨q, rfl⟩ : ∃ q : Nat, s = q := ⟨s.toNat, by omega⟩
  have hm24 : m ≤ 24 := by omega
  have hqm : q < m := by omega
  clear H1 hn hi hz0 hz1 hz2 ho
  go_enter Try.func90, Try.ntmps90
  go_wp2_with fail
  go_loopw [5, 6] (fun v i wr => ∃ k : Nat, k ≤ m ∧ i = .int .i64 k ∧ OwnN wr (w.heap.size + 1) v (List.replicate k (-1)) ∧ Bl (w.alloc (.cells #[.int .i64 (m : Int), .slice A n c] 33)) wr) (fun _ i _ => m - (intOf i).toNat)
  case atStart =>
    refine ⟨0, by omega, rfl, ?_, (by repeat' (first | exact Bl.refl _ | with_reducible assumption | with_reducible refine Bl.drew_ ?_ | with_reducible refine Bl.drewN_ ?_ _ | with_reducible refine Bl.alloc_ ?_ _ | with_reducible refine Bl.trans_ ?_ (by assumption) | with_reducible refine Bl.trans_ ?_ (And.left (by assumption))))⟩
    have h := World.ownsRow_made (base := w.heap.size + 1) (e := 2) (size := 1) (w.alloc (.cells #[.int .i64 (m : Int), .slice A n c] 33)) #[] 0 (by simp) (by unfold maxLen; omega) rfl
    rw [World.size_alloc] at h
    exact h
  case round =>
    obtain ⟨k, hk, rfl, hown, hbl⟩ := hrel
    have hs := hbl.size
    simp only [World.size_alloc] at hs
    obtain ⟨q0, q1⟩ := box2 hbl
    have O := Lib.hid hown
    have HB := Lib.hid hbl
    clear hown hbl
    by_cases hlt : k < m
    · go_wp2_with (at_builtin; refine wpList_append_own _ rfl (.tmp 18) (.tmp 19) _ rfl (w.heap.size + 1) 2 i0 _ 1 8 Try.underlying24 I0.out I1.out I2.out I3.out rfl (by decide) _ (List.replicate k (-1)).length (csI (List.replicate k (-1))) rfl (World.ownsRow.alloc O.out _) ⟨wr.heap.size, 0, none⟩ 1 1 [.int .i64 (-1)] rfl rfl ?c0 (by simp [Value.oneCell']) ?c3 ?c4 ?c5 ?_)
      case c0 => 
        intro j u hj
        match j, hj with
        | 0, hj => simp at hj; subst hj; simp [Addr.add, go_sem]
        | (j + 1), hj => simp at hj
      case c3 => unfold maxLen; simp; omega
      case c4 => simp; omega
      case c5 => simp; omega
      intro v' w1 hown' hgrow _
      have O1 := Lib.hid (OwnN.snoc (V := List.replicate k (-1)) (x := -1) (n := k) (by simp) (by simpa using hown'))
      have hb1 : Bl (w.alloc (.cells #[.int .i64 (m : Int), .slice A n c] 33)) w1 := (HB.out.alloc_ _).grown_ hgrow (fun g hg => by have := (Owns.lt O.out g hg).1; simpa using this)
      have hb1' := Lib.hid hb1
      obtain ⟨q2, q3⟩ := box2 hb1
      clear hown' hgrow q0 q1 hb1
      go_wp2
      go_roundw
      case rel => exact ⟨k + 1, by omega, by go_num, by rw [List.replicate_succ']; exact O1.out, hb1'.out⟩
      case measure => simp [intOf]; omega
    · obtain rfl : k = m := by omega
      obtain ⟨g, c', rfl, hBg, hgl, hrow⟩ := O.out.toRow (by simp; omega)
      have hcl := hrow.cells
      have p0 := hcl.2 q (by simp; exact hqm)
      have p1 := hcl.1 q
      rw [List.getElem_replicate] at p0
      rw [List.length_replicate]
      have hq0 : (0 : Int) ≤ (q : Int) := by omega
      have hq1 : (q : Int) < (k : Int) := by omega
      have R0 := Lib.hid (show RowN (wr.setCell ⟨g, q, none⟩ (.int .i64 0)) g c' (startD k q) from by
        have := hrow.set q 0
        unfold startD
        simpa using this)
      have HB0 := Lib.hid (show Bl (w.alloc (.cells #[.int .i64 (k : Int), .slice A n c] 33)) (wr.setCell ⟨g, q, none⟩ (.int .i64 0)) from HB.out.set_ (by simp; omega) _)
      clear hcl hrow
      go_wp2_with fail
      clear p0 p1 q0 q1
      go_loopg [7] (sumF potF (startD k q) + 1) (fun t mo wr => ∃ (D : List Int) (b : Bool), mo = .bool b ∧ Hid (Rel k L q D) ∧ Hid (RowN wr g c' D) ∧ Hid (Bl (w.alloc (.cells #[.int .i64 (k : Int), .slice A n c] 33)) wr) ∧ IfT b (sumF potF D + 1 ≤ t) ∧ IfF b (IsDist k L q D))
      case atStart => exact ⟨startD k q, true, rfl, Lib.hid (Rel.start_ (by omega) (by omega)), R0, HB0, fun _ => Nat.le_refl _, fun h => nomatch h⟩
      case round =>
        obtain ⟨D, b, rfl, RE, RO, BB, po, di⟩ := hrel
        have PO := Lib.hid po
        have DI := Lib.hid di
        clear po di
        have hDl : D.length = k := by have := RE.out.len; simpa using this
        have HDL := Lib.hid hDl
        clear hDl
        cases b with
        | false =>
          go_wp2_with fail
          go_ret
          have hD := distL_of (arcsIn_of_ok HO.out) (by omega) (by omega) (by omega) (DI.out rfl)
          refine ⟨_, rfl, ?_, (Bl.alloc_ (Bl.refl w) _).trans_ BB.out⟩
          rw [← hD]
          have := RO.out.own (B := w.heap.size) (by omega)
          rw [HDL.out] at this
          exact this
        | true =>
          obtain ⟨q0, q1⟩ := box2 BB.out
          go_wp2_with fail
          clear q0 q1
          go_loopw [7, 8] (fun mo i wr => ∃ (j : Nat) (E : List Int) (b : Bool), j ≤ n ∧ i = .int .i64 j ∧ mo = .bool b ∧ Hid (Rel k L q E) ∧ Hid (RowN wr g c' E) ∧ Hid (Bl (w.alloc (.cells #[.int .i64 (k : Int), .slice A n c] 33)) wr) ∧
            IfT b (sumF potF E < sumF potF D) ∧ IfF b (E = D ∧ ∀ t (h : t < L.length), t < j → nearer D L[t] = false)) (fun _ i _ => n - (intOf i).toNat)
          case atStart => exact ⟨0, D, false, by omega, rfl, rfl, RE, RO, BB, (fun h => nomatch h), fun _ => ⟨rfl, fun t h h' => absurd h' (by omega)⟩⟩
          case round =>
            obtain ⟨j, E, b, hj, rfl, rfl, RE2, RO2, BB2, less, same⟩ := hrel
            have LESS := Lib.hid less
            have SAME := Lib.hid same
            clear less same
            obtain ⟨q0, q1⟩ := box2 BB2.out
            have hEl : E.length = k := by have := RE2.out.len; simpa using this
            have HEL := Lib.hid hEl
            clear hEl
            by_cases hlt : j < n
            · have hjl : j < L.length := by have := HN.out; omega
              have hbw : Bl w wr := (Bl.alloc_ (Bl.refl w) _).trans_ BB2.out
              obtain ⟨g1, o1, rfl, hg1, hc1⟩ := K1.out (by omega)
              obtain ⟨p1, p2, p3⟩ := hc1 j hjl
              rw [← (bcell hbw).1 _ _ hg1] at p1 p2 p3
              obtain ⟨a0, a1, a2, a3, a4, a5⟩ := arcsIn_of_ok HO.out L[j] (List.getElem_mem hjl)
              have AM := Lib.hid (show L[j] ∈ L from List.getElem_mem hjl)
              have hgl2 := RO2.out.lt
              have hg1l : g1 < wr.heap.size := Nat.lt_of_lt_of_le hg1 hbw.size
              clear hc1 hbw
              generalize hAA : L[j] = aa at *
              obtain ⟨x, y, z⟩ := aa
              simp only at a0 a1 a2 a3 a4 a5 p1 p2 p3
              obtain ⟨u, rfl⟩ : ∃ u : Nat, x = u := ⟨x.toNat, by omega⟩
              obtain ⟨v, rfl⟩ : ∃ v : Nat, y = v := ⟨y.toNat, by omega⟩
              have huk : u < k := by omega
              have hvk : v < k := by omega
              obtain ⟨hfz, hcl⟩ := RO2.out.cells
              have c1 := hcl u (by rw [HEL.out]; exact huk)
              have c2 := hcl v (by rw [HEL.out]; exact hvk)
              have f2 := hfz v
              clear hfz hcl
              have e1 : E[u]'(by rw [HEL.out]; exact huk) = dAt E (u : Int) := by simp [dAt, HEL.out, huk]
              have e2 : E[v]'(by rw [HEL.out]; exact hvk) = dAt E (v : Int) := by simp [dAt, HEL.out, hvk]
              rw [e1] at c1
              rw [e2] at c2
              have b1 := RE2.out.bound (by omega) (u : Int)
              have b2 := RE2.out.bound (by omega) (v : Int)
              have b3 := RE2.out.low (u : Int)
              have b4 := RE2.out.low (v : Int)
              have HA := Lib.hid hAA
              clear e1 e2 hAA
              have hstep : nearer E ((u : Int), (v : Int), z) = true → Rel k L q (E.set v (dAt E (u : Int) + z)) ∧ sumF potF (E.set v (dAt E (u : Int) + z)) < sumF potF E := fun h => by
                have := RE2.out.step (arcsIn_of_ok HO.out) (by omega) AM.out h
                simpa using this
              have HST := Lib.hid hstep
              clear hstep
              generalize hdu : dAt E (u : Int) = du at *
              generalize hdv : dAt E (v : Int) = dv at *
              have hnr : nearer E ((u : Int), (v : Int), z) = decide (0 ≤ du ∧ (dv < 0 ∨ du + z < dv)) := by
                unfold nearer
                simp only [hdu, hdv]
              have HNR := Lib.hid hnr
              have no : nearer E ((u : Int), (v : Int), z) = false → IfF b (E = D ∧ ∀ t (h : t < L.length), t < j + 1 → nearer D L[t] = false) := fun hn hb => by
                obtain ⟨e, h⟩ := SAME.out hb
                refine ⟨e, fun t ht htj => ?_⟩
                rcases Nat.lt_or_ge t j with h' | h'
                · exact h t ht h'
                · obtain rfl : t = j := by omega
                  rw [HA.out, ← e]
                  exact hn
              have NO := Lib.hid no
              clear hdu hdv hnr no AM HA
              have i1 : (0 : Int) ≤ (u : Int) := by omega
              have i2 : (u : Int) < (k : Int) := by omega
              have i3 : (0 : Int) ≤ (v : Int) := by omega
              have i4 : (v : Int) < (k : Int) := by omega
              by_cases hdn : du < 0
              · have hnf : nearer E ((u : Int), (v : Int), z) = false := by rw [HNR.out]; simp; omega
                have NF := Lib.hid (NO.out hnf)
                clear hnf
                go_wp2_with fail
                go_roundw
                case rel => exact ⟨j + 1, E, b, by omega, by go_num, rfl, RE2, Lib.hid (RO2.out.bl (by repeat' (first | exact Bl.refl _ | with_reducible assumption | with_reducible refine Bl.drew_ ?_ | with_reducible refine Bl.drewN_ ?_ _ | with_reducible refine Bl.alloc_ ?_ _ | with_reducible refine Bl.trans_ ?_ (by assumption) | with_reducible refine Bl.trans_ ?_ (And.left (by assumption))))), Lib.hid (BB2.out.trans_ (by repeat' (first | exact Bl.refl _ | with_reducible assumption | with_reducible refine Bl.drew_ ?_ | with_reducible refine Bl.drewN_ ?_ _ | with_reducible refine Bl.alloc_ ?_ _ | with_reducible refine Bl.trans_ ?_ (by assumption) | with_reducible refine Bl.trans_ ?_ (And.left (by assumption))))), LESS.out, NF.out⟩
                case measure => simp [intOf]; omega
              · by_cases hnv : dv < 0
                · have hyes : nearer E ((u : Int), (v : Int), z) = true := by rw [HNR.out]; simp; omega
                  obtain ⟨hre, hpo⟩ := HST.out hyes
                  have RE3 := Lib.hid hre
                  have LS3 := Lib.hid (show sumF potF (E.set v (du + z)) < sumF potF D from by
                    cases hb : b with
                    | true => exact Nat.lt_trans hpo (LESS.out hb)
                    | false => rw [← (SAME.out hb).1]; exact hpo)
                  have hw : IntKind.i64.wrap (du + z) = du + z := IntWalk.i64_in _ (by omega)
                  clear hyes hre hpo
                  go_wp2_with fail
                  go_quiet (fail)
                  clear hw
                  go_wp2_with fail
                  go_roundw
                  case rel => exact ⟨j + 1, E.set v (du + z), true, by omega, by go_num, rfl, RE3, Lib.hid (RowN.set (RO2.out.bl (by repeat' (first | exact Bl.refl _ | with_reducible assumption | with_reducible refine Bl.drew_ ?_ | with_reducible refine Bl.drewN_ ?_ _ | with_reducible refine Bl.alloc_ ?_ _ | with_reducible refine Bl.trans_ ?_ (by assumption) | with_reducible refine Bl.trans_ ?_ (And.left (by assumption))))) v _), Lib.hid (Bl.set_ (BB2.out.trans_ (by repeat' (first | exact Bl.refl _ | with_reducible assumption | with_reducible refine Bl.drew_ ?_ | with_reducible refine Bl.drewN_ ?_ _ | with_reducible refine Bl.alloc_ ?_ _ | with_reducible refine Bl.trans_ ?_ (by assumption) | with_reducible refine Bl.trans_ ?_ (And.left (by assumption))))) (by simp; omega) _), (fun _ => LS3.out), fun h => nomatch h⟩
                  case measure => simp [intOf]; omega
                · by_cases hln : du + z < dv
                  · have hyes : nearer E ((u : Int), (v : Int), z) = true := by rw [HNR.out]; simp; omega
                    obtain ⟨hre, hpo⟩ := HST.out hyes
                    have RE3 := Lib.hid hre
                    have LS3 := Lib.hid (show sumF potF (E.set v (du + z)) < sumF potF D from by
                      cases hb : b with
                      | true => exact Nat.lt_trans hpo (LESS.out hb)
                      | false => rw [← (SAME.out hb).1]; exact hpo)
                    have hw : IntKind.i64.wrap (du + z) = du + z := IntWalk.i64_in _ (by omega)
                    clear hyes hre hpo
                    go_wp2_with fail
                    go_quiet (fail)
                    clear hw
                    go_wp2_with fail
                    go_roundw
                    case rel => exact ⟨j + 1, E.set v (du + z), true, by omega, by go_num, rfl, RE3, Lib.hid (RowN.set (RO2.out.bl (by repeat' (first | exact Bl.refl _ | with_reducible assumption | with_reducible refine Bl.drew_ ?_ | with_reducible refine Bl.drewN_ ?_ _ | with_reducible refine Bl.alloc_ ?_ _ | with_reducible refine Bl.trans_ ?_ (by assumption) | with_reducible refine Bl.trans_ ?_ (And.left (by assumption))))) v _), Lib.hid (Bl.set_ (BB2.out.trans_ (by repeat' (first | exact Bl.refl _ | with_reducible assumption | with_reducible refine Bl.drew_ ?_ | with_reducible refine Bl.drewN_ ?_ _ | with_reducible refine Bl.alloc_ ?_ _ | with_reducible refine Bl.trans_ ?_ (by assumption) | with_reducible refine Bl.trans_ ?_ (And.left (by assumption))))) (by simp; omega) _), (fun _ => LS3.out), fun h => nomatch h⟩
                    case measure => simp [intOf]; omega
                  · have hnf : nearer E ((u : Int), (v : Int), z) = false := by rw [HNR.out]; simp; omega
                    have NF := Lib.hid (NO.out hnf)
                    have hw : IntKind.i64.wrap (du + z) = du + z := IntWalk.i64_in _ (by omega)
                    clear hnf
                    go_wp2_with fail
                    go_quiet (fail)
                    clear hw
                    go_wp2_with fail
                    go_roundw
                    case rel => exact ⟨j + 1, E, b, by omega, by go_num, rfl, RE2, Lib.hid (RO2.out.bl (by repeat' (first | exact Bl.refl _ | with_reducible assumption | with_reducible refine Bl.drew_ ?_ | with_reducible refine Bl.drewN_ ?_ _ | with_reducible refine Bl.alloc_ ?_ _ | with_reducible refine Bl.trans_ ?_ (by assumption) | with_reducible refine Bl.trans_ ?_ (And.left (by assumption))))), Lib.hid (BB2.out.trans_ (by repeat' (first | exact Bl.refl _ | with_reducible assumption | with_reducible refine Bl.drew_ ?_ | with_reducible refine Bl.drewN_ ?_ _ | with_reducible refine Bl.alloc_ ?_ _ | with_reducible refine Bl.trans_ ?_ (by assumption) | with_reducible refine Bl.trans_ ?_ (And.left (by assumption))))), LESS.out, NF.out⟩
                    case measure => simp [intOf]; omega
            · go_wp2_with fail
              go_roundg (if b = true then sumF potF E + 1 else 0)
              case rel =>
                refine ⟨E, b, rfl, RE2, RO2, BB2, fun h => by rw [h]; simp, fun h => ?_⟩
                obtain ⟨e, hx⟩ := SAME.out h
                refine RE2.out.done (arcsIn_of_ok HO.out) fun a ha => ?_
                obtain ⟨t, ht, rfl⟩ := List.mem_iff_getElem.1 ha
                rw [e]
                exact hx t ht (by have := HN.out; omega)
              case measure =>
                have := PO.out rfl
                cases hb : b with
                | true => have := LESS.out hb; simp; omega
                | false => simp; omega

end Go.Proofs.Ytlddileiecnkjaa

set_option linter.unusedSimpArgs false
set_option linter.unusedVariables false
namespace Go.Proofs.Ytlddileiecnkjaa

/-- An item as two numbers: key and id. -/
abbrev It := Int × Int
def lessI (a b : It) : Bool := decide (a.1 < b.1 ∨ a.1 = b.1 ∧ a.2 < b.2)
theorem lessI_trans {a b c : It} (h : lessI a b = true) (k : lessI b c = true) : lessI a c = true := by
  simp only [lessI, decide_eq_true_eq] at *
  omega
theorem lessI_asymm {a b : It} (h : lessI a b = true) : lessI b a = false := by
  simp only [lessI, decide_eq_true_eq, decide_eq_false_iff_not] at *
  omega
theorem lessI_neg_trans {a b c : It} (h : lessI a b = false) (k : lessI b c = false) : lessI a c = false := by
  simp only [lessI, decide_eq_false_iff_not] at *
  omega
theorem lessI_irrefl (a : It) : lessI a a = false := by
  simp [lessI]

def atI (L : List It) (k : Nat) : It := L.getD k (0, 0)
theorem atI_eq {L : List It} {k : Nat} (h : k < L.length) : atI L k = L[k] := by simp [atI, h]
theorem atI_set {L : List It} {i k : Nat} {x : It} (hi : i < L.length) : atI (L.set i x) k = if k = i then x else atI L k := by
  unfold atI
  rw [List.getD_eq_getElem?_getD, List.getD_eq_getElem?_getD, List.getElem?_set]
  by_cases h : i = k
  · subst h; simp [hi]
  · rw [if_neg h, if_neg (fun e => h e.symm)]

/-- Two items change places. -/
def swapI (L : List It) (i j : Nat) : List It := (L.set i (atI L j)).set j (atI L i)
theorem swapI_len (L : List It) (i j : Nat) : (swapI L i j).length = L.length := by simp [swapI]

/-- Up, as long as it is less than the one above. -/
def upI (L : List It) (k : Nat) : List It :=
  if h : 0 < k ∧ lessI (atI L k) (atI L ((k - 1) / 2)) = true then upI (swapI L k ((k - 1) / 2)) ((k - 1) / 2) else L
termination_by k
decreasing_by omega
theorem upI_step {L : List It} {k : Nat} (h0 : 0 < k) (h : lessI (atI L k) (atI L ((k - 1) / 2)) = true) : upI L k = upI (swapI L k ((k - 1) / 2)) ((k - 1) / 2) := by
  rw [upI]; simp [h0, h]
theorem upI_zero (L : List It) : upI L 0 = L := by rw [upI]; simp
theorem upI_stop {L : List It} {k : Nat} (h : lessI (atI L k) (atI L ((k - 1) / 2)) = false) : upI L k = L := by
  rw [upI]; simp [h]
theorem upI_len (L : List It) (k : Nat) : (upI L k).length = L.length := by
  induction k using Nat.strongRecOn generalizing L with
  | ind k ih =>
    rw [upI]
    split
    · rename_i h
      rw [ih _ (by omega), swapI_len]
    · rfl

/-- The least so far of a place and the first i below it. -/
def bestI (L : List It) (p : Nat) : Nat → Nat
  | 0 => p
  | i + 1 => if 2 * p + 1 + i < L.length ∧ lessI (atI L (2 * p + 1 + i)) (atI L (bestI L p i)) = true then 2 * p + 1 + i else bestI L p i
def pickI (L : List It) (p : Nat) : Nat := bestI L p 2
theorem bestI_lt {L : List It} {p : Nat} (hp : p < L.length) : ∀ i, bestI L p i < L.length
  | 0 => hp
  | i + 1 => by
    unfold bestI
    split
    · rename_i h; exact h.1
    · exact bestI_lt hp i
theorem bestI_ge {L : List It} {p : Nat} : ∀ i, p ≤ bestI L p i
  | 0 => Nat.le_refl _
  | i + 1 => by
    unfold bestI
    split
    · omega
    · exact bestI_ge i
theorem bestI_yes {L : List It} {p i : Nat} (h : 2 * p + 1 + i < L.length) (k : lessI (atI L (2 * p + 1 + i)) (atI L (bestI L p i)) = true) : bestI L p (i + 1) = 2 * p + 1 + i := by
  rw [bestI, if_pos ⟨h, k⟩]
theorem bestI_no {L : List It} {p i : Nat} (k : lessI (atI L (2 * p + 1 + i)) (atI L (bestI L p i)) = false) : bestI L p (i + 1) = bestI L p i := by
  rw [bestI, if_neg (by rw [k]; simp)]
theorem bestI_out {L : List It} {p i : Nat} (h : L.length ≤ 2 * p + 1 + i) : bestI L p (i + 1) = bestI L p i := by
  rw [bestI, if_neg (by omega)]
theorem pickI_out {L : List It} {p i : Nat} (hi : i ≤ 2) (h : i = 2 ∨ L.length ≤ 2 * p + 1 + i) : pickI L p = bestI L p i := by
  rcases h with rfl | h
  · rfl
  · unfold pickI
    match i, hi, h with
    | 0, _, h => rw [bestI_out (by omega), bestI_out (by omega)]
    | 1, _, h => rw [bestI_out (by omega)]
    | 2, _, h => rfl

theorem pickI_ge (L : List It) (p : Nat) : p ≤ pickI L p := bestI_ge 2
theorem pickI_lt {L : List It} {p : Nat} (hp : p < L.length) : pickI L p < L.length := bestI_lt hp 2
theorem pickI_none {L : List It} {p : Nat} (hp : L.length ≤ p) : pickI L p = p := by
  rw [pickI_out (i := 0) (by omega) (.inr (by omega))]; rfl
theorem pickI_lt' {L : List It} {p : Nat} (h : pickI L p ≠ p) : pickI L p < L.length := by
  rcases Nat.lt_or_ge p L.length with hp | hp
  · exact pickI_lt hp
  · exact absurd (pickI_none hp) h

/-- Down, by way of the lesser of the two below. -/
def downI (L : List It) (p : Nat) : List It :=
  if h : pickI L p ≠ p then downI (swapI L p (pickI L p)) (pickI L p) else L
termination_by L.length - p
decreasing_by
  have := pickI_ge L p
  have := pickI_lt' h
  rw [swapI_len]
  omega
theorem downI_step {L : List It} {p : Nat} (h : pickI L p ≠ p) : downI L p = downI (swapI L p (pickI L p)) (pickI L p) := by
  rw [downI]; simp [h]
theorem downI_stop {L : List It} {p : Nat} (h : pickI L p = p) : downI L p = L := by
  rw [downI]; simp [h]
theorem downI_len_aux (n : Nat) : ∀ (L : List It) (p : Nat), L.length - p = n → (downI L p).length = L.length := by
  induction n using Nat.strongRecOn with
  | ind n ih =>
    intro L p hn
    by_cases h : pickI L p = p
    · rw [downI_stop h]
    · rw [downI_step h]
      have h1 := pickI_ge L p
      have h2 := pickI_lt' h
      rw [ih (L.length - pickI L p) (by omega) _ _ (by rw [swapI_len]), swapI_len]
theorem downI_len (L : List It) (p : Nat) : (downI L p).length = L.length := downI_len_aux _ L p rfl





end Go.Proofs.Ytlddileiecnkjaa

set_option linter.unusedSimpArgs false
set_option linter.unusedVariables false
namespace Go.Proofs.Ytlddileiecnkjaa
open Go.RowKit

/-- The cells of items, one behind the other. -/
def cs2 : List It → List Value
  | [] => []
  | a :: l => .int .i64 a.1 :: .int .i64 a.2 :: cs2 l
theorem cs2_append : ∀ (l m : List It), cs2 (l ++ m) = cs2 l ++ cs2 m
  | [], _ => rfl
  | a :: l, m => by simp [cs2, cs2_append l m]
theorem cs2_length : ∀ (l : List It), (cs2 l).length = l.length * 2
  | [] => rfl
  | a :: l => by simp [cs2, cs2_length l]; omega
theorem cs2_at : ∀ (l : List It) (k : Nat) (h : k < l.length), (cs2 l)[k * 2]? = some (.int .i64 l[k].1) ∧ (cs2 l)[k * 2 + 1]? = some (.int .i64 l[k].2)
  | a :: l, 0, _ => ⟨rfl, rfl⟩
  | a :: l, k + 1, h => by
    have h' : k < l.length := by simpa using h
    obtain ⟨x, y⟩ := cs2_at l k h'
    have e0 : (k + 1) * 2 = k * 2 + 2 := by omega
    refine ⟨?_, ?_⟩
    · rw [e0]; simpa [cs2] using x
    · rw [e0, show k * 2 + 2 + 1 = (k * 2 + 1) + 2 from by omega]; simpa [cs2] using y
theorem cs2_set : ∀ (l : List It) (k : Nat) (x : It), cs2 (l.set k x) = ((cs2 l).set (k * 2) (.int .i64 x.1)).set (k * 2 + 1) (.int .i64 x.2)
  | [], _, _ => by simp [cs2]
  | a :: l, 0, x => by simp [cs2]
  | a :: l, k + 1, x => by
    have e0 : (k + 1) * 2 = k * 2 + 2 := by omega
    rw [e0, show k * 2 + 2 + 1 = (k * 2 + 1) + 2 from by omega]
    simp [cs2, cs2_set l k x]
theorem cs2_take : ∀ (l : List It) (k : Nat), cs2 (l.take k) = (cs2 l).take (k * 2)
  | [], _ => by simp [cs2]
  | a :: l, 0 => by simp [cs2]
  | a :: l, k + 1 => by
    rw [show (k + 1) * 2 = k * 2 + 2 from by omega]
    simp [cs2, cs2_take l k]

/-- The slice at A reads as the items L, below block B. -/
def ItemsAt (w : World) (B : Nat) (A : Option Addr) (L : List It) : Prop := CellsAt w B A (cs2 L)
theorem ItemsAt.cell {w : World} {B : Nat} {A : Option Addr} {L : List It} (h : ItemsAt w B A L) (h0 : 0 < L.length) :
    ∃ g off, A = some ⟨g, off, none⟩ ∧ g < B ∧ ∀ k (hk : k < L.length), w.cell? ⟨g, off + k * 2, none⟩ = some (.int .i64 L[k].1) ∧ w.cell? ⟨g, off + k * 2 + 1, none⟩ = some (.int .i64 L[k].2) := by
  obtain ⟨g, off, e, hg, hc⟩ := h (by rw [cs2_length]; omega)
  refine ⟨g, off, e, hg, fun k hk => ?_⟩
  obtain ⟨x, y⟩ := cs2_at L k hk
  have hl := cs2_length L
  refine ⟨?_, ?_⟩
  · rw [hc (k * 2) (by omega), ← x, List.getElem?_eq_getElem]
  · rw [Nat.add_assoc, hc (k * 2 + 1) (by omega), ← y, List.getElem?_eq_getElem]
theorem ItemsAt.bl {w w' : World} {A : Option Addr} {L : List It} (h : ItemsAt w w.heap.size A L) (hb : Bl w w') : ItemsAt w' w'.heap.size A L := CellsAt.bl h hb
theorem ItemsAt.more {w : World} {B B' : Nat} {A : Option Addr} {L : List It} (h : ItemsAt w B A L) (hB : B ≤ B') : ItemsAt w B' A L := CellsAt.more h hB
theorem ItemsAt.grown_ {w w' : World} {B : Nat} {A : Option Addr} {L : List It} {row : Option Nat} (h : ItemsAt w B A L) (hB : B ≤ w.heap.size) (hg : w.grownBy w' row)
    (hne : ∀ g, blockOf A = some g → g < B → some g ≠ row) : ItemsAt w' B A L := CellsAt.grown_ h hB hg hne

/-- The value v owns the items L, in blocks from B on. -/
def OwnI (w : World) (B : Nat) (v : Value) (L : List It) : Prop := Owns 68 2 w B v L.length (cs2 L)

theorem infoItem : (Try.prog.info? 68).map (fun i => (i.zero, i.size, i.bytes)) = some (some (.agg #[.int .i64 0, .int .i64 0]), 2, 16) := by kernel_rfl





end Go.Proofs.Ytlddileiecnkjaa

set_option linter.unusedSimpArgs false
set_option linter.unusedVariables false
namespace Go.Proofs.Ytlddileiecnkjaa
open Go.RowKit



/-- A row whose first k items are those of L. -/
def Filled (w : World) (g n k : Nat) (L : List It) : Prop := ∃ cur : Array Value, w.heap[g]? = some (.cells cur 68 (0, 0)) ∧ cur.size = n * 2 ∧ ∀ j (h : j < k) (h' : j < L.length), cur[j * 2]? = some (.int .i64 L[j].1) ∧ cur[j * 2 + 1]? = some (.int .i64 L[j].2)
theorem Filled.cells {w : World} {g n k : Nat} {L : List It} (h : Filled w g n k L) : (∀ o, w.frozen? ⟨g, o, none⟩ = false) ∧ g < w.heap.size ∧ ∀ o, o < n * 2 → ∃ v, w.cell? ⟨g, o, none⟩ = some v := by
  obtain ⟨cur, hb, hs, _⟩ := h
  refine ⟨fun o => by simp [World.frozen?, hb], (Array.getElem?_eq_some_iff.1 hb).1, fun o ho => ⟨cur[o]'(by omega), ?_⟩⟩
  simp [World.cell?, hb, show o < cur.size from by omega]
theorem Filled.step {w : World} {g n k : Nat} {L : List It} (h : Filled w g n k L) (hk : k < n) (hl : k < L.length) {x y : Int} (hx : L[k].1 = x) (hy : L[k].2 = y) :
    Filled ((w.setCell ⟨g, k * 2, none⟩ (.int .i64 x)).setCell ⟨g, k * 2 + 1, none⟩ (.int .i64 y)) g n (k + 1) L := by
  obtain ⟨cur, hb, hs, hf⟩ := h
  refine ⟨(cur.setIfInBounds (k * 2) (.int .i64 x)).setIfInBounds (k * 2 + 1) (.int .i64 y), heap_setCell_same _ g _ _ _ _ (heap_setCell_same w g _ cur _ _ hb), by simpa using hs, fun j hj hj' => ?_⟩
  rcases Nat.lt_or_ge j k with h | h
  · obtain ⟨a, b⟩ := hf j h hj'
    refine ⟨?_, ?_⟩
    · rw [Array.getElem?_setIfInBounds_ne (by omega), Array.getElem?_setIfInBounds_ne (by omega)]; exact a
    · rw [Array.getElem?_setIfInBounds_ne (by omega), Array.getElem?_setIfInBounds_ne (by omega)]; exact b
  · obtain rfl : j = k := by omega
    refine ⟨?_, ?_⟩
    · rw [Array.getElem?_setIfInBounds_ne (by omega), Array.getElem?_setIfInBounds_self_of_lt (by omega), hx]
    · rw [Array.getElem?_setIfInBounds_self_of_lt (by simp; omega), hy]
theorem list_ext2 {c : List Value} {L : List It} (hs : c.length = L.length * 2) (h : ∀ j (h' : j < L.length), c[j * 2]? = some (.int .i64 L[j].1) ∧ c[j * 2 + 1]? = some (.int .i64 L[j].2)) : c = cs2 L := by
  apply List.ext_getElem?
  intro i
  rcases Nat.lt_or_ge i (L.length * 2) with hi | hi
  · have hj : i / 2 < L.length := by omega
    obtain ⟨a, b⟩ := h (i / 2) hj
    obtain ⟨x, y⟩ := cs2_at L (i / 2) hj
    rcases Nat.mod_two_eq_zero_or_one i with hm | hm
    · rw [show i = i / 2 * 2 from by omega, a, x]
    · rw [show i = i / 2 * 2 + 1 from by omega, b, y]
  · rw [List.getElem?_eq_none (by omega), List.getElem?_eq_none (by rw [cs2_length]; omega)]
theorem Filled.own {w : World} {B g n : Nat} {L : List It} (h : Filled w g n n L) (hn : n = L.length) (hm : n ≤ 1048576) (hB : B ≤ g) : OwnI w B (.slice (some ⟨g, 0, none⟩) n n) L := by
  obtain ⟨cur, hb, hs, hf⟩ := h
  subst hn
  refine ⟨by rw [cs2_length], .inr ⟨g, L.length, cur, rfl, hB, hb, Nat.le_refl _, by unfold maxLen; omega, hs, ?_⟩⟩
  rw [List.take_of_length_le (by simp; omega)]
  exact list_ext2 (by simpa using hs) fun j hj => by
    obtain ⟨a, b⟩ := hf j hj hj
    exact ⟨by simpa using a, by simpa using b⟩




end Go.Proofs.Ytlddileiecnkjaa

set_option linter.unusedSimpArgs false
set_option linter.unusedVariables false
namespace Go.Proofs.Ytlddileiecnkjaa
open Go.RowKit

theorem less_key {a b c d : Int} (h : ¬ a = c) : lessI (a, b) (c, d) = decide (a < c) := by
  simp [lessI, h]
theorem less_id {a b d : Int} : lessI (a, b) (a, d) = decide (b < d) := by
  simp [lessI]

set_option maxHeartbeats 400000 in
theorem itemLess_any (a b c d : Int) (w : World) :
    Calls Try.prog 151 #[.agg #[.int .i64 a, .int .i64 b], .agg #[.int .i64 c, .int .i64 d]] w fun e w' => e = .returned (.bool (lessI (a, b) (c, d))) ∧ Bl w w' := by
  by_cases h : a = c
  · subst h
    have h' : (a != a) = false := by simp
    go_enter Try.func151, Try.ntmps151
    go_wp2
    go_ret
    exact ⟨ret_bool less_id.symm, (by repeat' (first | exact Bl.refl _ | with_reducible assumption | with_reducible refine Bl.drew_ ?_ | with_reducible refine Bl.drewN_ ?_ _ | with_reducible refine Bl.alloc_ ?_ _ | with_reducible refine Bl.trans_ ?_ (by assumption) | with_reducible refine Bl.trans_ ?_ (And.left (by assumption))))⟩
  · have h' : (a != c) = true := by simpa using h
    go_enter Try.func151, Try.ntmps151
    go_wp2
    go_ret
    exact ⟨ret_bool (less_key h).symm, (by repeat' (first | exact Bl.refl _ | with_reducible assumption | with_reducible refine Bl.drew_ ?_ | with_reducible refine Bl.drewN_ ?_ _ | with_reducible refine Bl.alloc_ ?_ _ | with_reducible refine Bl.trans_ ?_ (by assumption) | with_reducible refine Bl.trans_ ?_ (And.left (by assumption))))⟩


set_option maxHeartbeats 400000 in
theorem above_any (k : Nat) (w : World) (hk : 0 < k) (hm : k ≤ 1048576) :
    Calls Try.prog 174 #[.int .i64 (k : Int)] w fun e w' => e = .returned (.int .i64 (((k - 1) / 2 : Nat) : Int)) ∧ w = w' := by
  have h0 : (0 : Int) ≤ (k : Int) - 1 := by omega
  go_enter Try.func174, Try.ntmps174
  go_wp2
  go_ret
  exact ⟨ret_int (by omega), rfl⟩

/-- A heap of the code's own: its list, and less. -/
def HBox (w : World) (hb : Nat) (v : Value) : Prop := w.cell? ⟨hb, 0, none⟩ = some v ∧ w.cell? ⟨hb, 1, none⟩ = some (.func (.func 151) #[] #[]) ∧ w.frozen? ⟨hb, 0, none⟩ = false
theorem HBox.bl {w w' : World} {hb : Nat} {v : Value} (h : HBox w hb v) (hlt : hb < w.heap.size) (k : Bl w w') : HBox w' hb v := by
  obtain ⟨a, b⟩ := bcell k
  exact ⟨(a _ _ hlt).trans h.1, (a _ _ hlt).trans h.2.1, (b _ _ hlt).trans h.2.2⟩
theorem HBox.lt {w : World} {hb : Nat} {v : Value} (h : HBox w hb v) : hb < w.heap.size := World.block_lt_of_cell? _ _ h.1
theorem HBox.grown_ {w w' : World} {hb : Nat} {v : Value} {row : Option Nat} (h : HBox w hb v) (k : w.grownBy w' row) (hne : some hb ≠ row) : HBox w' hb v := by
  have e := k.block hb h.lt hne
  exact ⟨(World.cell?_of_block (a := ⟨hb, 0, none⟩) e).trans h.1, (World.cell?_of_block (a := ⟨hb, 1, none⟩) e).trans h.2.1, (World.frozen?_of_block (a := ⟨hb, 0, none⟩) e).trans h.2.2⟩

/-- The row at block g owns the items L. -/
def RowI (w : World) (g n c : Nat) (L : List It) : Prop := OwnI w g (.slice (some ⟨g, 0, none⟩) n c) L ∧ n = L.length
theorem RowI.cells {w : World} {g n c : Nat} {L : List It} (h : RowI w g n c L) : (∀ o, w.frozen? ⟨g, o, none⟩ = false) ∧ g < w.heap.size ∧
    ∀ k (hk : k < L.length), w.cell? ⟨g, k * 2, none⟩ = some (.int .i64 (atI L k).1) ∧ w.cell? ⟨g, k * 2 + 1, none⟩ = some (.int .i64 (atI L k).2) := by
  obtain ⟨h, rfl⟩ := h
  have h' : w.ownsRow g 68 2 (.slice (some ⟨g, 0, none⟩) L.length c) L.length (cs2 L) := h
  refine ⟨fun o => World.ownsRow.frozenAt h' o, ?_, fun k hk => ?_⟩
  · exact (World.ownsRow.lt h' g rfl).2
  · obtain ⟨x, y⟩ := cs2_at L k hk
    rw [atI_eq hk]
    exact ⟨(World.ownsRow.cellAt h' _ (by omega)).trans x, (World.ownsRow.cellAt h' _ (by omega)).trans y⟩
theorem RowI.bl {w w' : World} {g n c : Nat} {L : List It} (h : RowI w g n c L) (k : Bl w w') : RowI w' g n c L := ⟨Owns.bl h.1 k, h.2⟩
theorem RowI.set {w : World} {g n c : Nat} {L : List It} (h : RowI w g n c L) (k : Nat) (x y : Int) :
    RowI ((w.setCell ⟨g, k * 2, none⟩ (.int .i64 x)).setCell ⟨g, k * 2 + 1, none⟩ (.int .i64 y)) g n c (L.set k (x, y)) ∧
      w.grownBy ((w.setCell ⟨g, k * 2, none⟩ (.int .i64 x)).setCell ⟨g, k * 2 + 1, none⟩ (.int .i64 y)) (some g) := by
  obtain ⟨h, rfl⟩ := h
  have h1 := Owns.stored (show Owns 68 2 w g (.slice (some ⟨g, 0, none⟩) L.length c) L.length (cs2 L) from h) (k * 2) (.int .i64 x)
  have h2 := Owns.stored h1.1 (k * 2 + 1) (.int .i64 y)
  refine ⟨⟨?_, by simp⟩, grown_trans h1.2 h2.2⟩
  unfold OwnI
  rw [cs2_set, List.length_set]
  exact h2.1

theorem swap_world {w : World} {g n c i j : Nat} {L : List It} (h : RowI w g n c L) :
    RowI ((((w.setCell ⟨g, i * 2, none⟩ (.int .i64 (atI L j).1)).setCell ⟨g, i * 2 + 1, none⟩ (.int .i64 (atI L j).2)).setCell ⟨g, j * 2, none⟩ (.int .i64 (atI L i).1)).setCell ⟨g, j * 2 + 1, none⟩ (.int .i64 (atI L i).2)) g n c (swapI L i j) ∧
      w.grownBy ((((w.setCell ⟨g, i * 2, none⟩ (.int .i64 (atI L j).1)).setCell ⟨g, i * 2 + 1, none⟩ (.int .i64 (atI L j).2)).setCell ⟨g, j * 2, none⟩ (.int .i64 (atI L i).1)).setCell ⟨g, j * 2 + 1, none⟩ (.int .i64 (atI L i).2)) (some g) := by
  obtain ⟨a, b⟩ := h.set i (atI L j).1 (atI L j).2
  obtain ⟨a', b'⟩ := a.set j (atI L i).1 (atI L i).2
  exact ⟨a', grown_trans b b'⟩

/-- What an exchange, or many, leave: the items are now these; nothing else has turned. -/
def RowTo (g n c : Nat) (L : List It) (w : World) (e : Ending) (w' : World) : Prop := e = .returned (.tuple #[]) ∧ RowI w' g n c L ∧ w.grownBy w' (some g)

set_option maxHeartbeats 1000000 in
theorem swap_any (hb g n c i j : Nat) (L : List It) (w : World) (hm : n ≤ 1048576) (hR : RowI w g n c L) (hH : HBox w hb (.slice (some ⟨g, 0, none⟩) n c)) (hi : i < n) (hj : j < n) (hij : i ≠ j) :
    Calls Try.prog 175 #[.pointer (some ⟨hb, 0, none⟩), .int .i64 (i : Int), .int .i64 (j : Int)] w (RowTo g n c (swapI L i j) w) := by
  have R := Lib.hid hR
  obtain ⟨hfz, hg, hc⟩ := hR.cells
  obtain ⟨h0, h1, h2⟩ := hH
  have hn := hR.2
  obtain ⟨a1, a2⟩ := hc i (by omega)
  obtain ⟨b1, b2⟩ := hc j (by omega)
  have f1 := hfz (i * 2)
  have f2 := hfz (i * 2 + 1)
  have f3 := hfz (j * 2)
  have f4 := hfz (j * 2 + 1)
  clear hfz hc hR h2 hn
  generalize hx : (atI L i).1 = x at a1
  generalize hy : (atI L i).2 = y at a2
  generalize hx' : (atI L j).1 = x' at b1
  generalize hy' : (atI L j).2 = y' at b2
  have HX := Lib.hid hx
  have HY := Lib.hid hy
  have HX' := Lib.hid hx'
  have HY' := Lib.hid hy'
  clear hx hy hx' hy'
  have i0 : (i : Int) < (n : Int) := by omega
  have j0 : (j : Int) < (n : Int) := by omega
  go_enter Try.func175, Try.ntmps175
  go_wp2
  go_region
  go_end0
  rw [← HX.out, ← HY.out, ← HX'.out, ← HY'.out]
  obtain ⟨u, v⟩ := swap_world (i := i) (j := j) R.out
  exact ⟨rfl, u.bl (Bl.refl _).drew_, grown_bl v (Bl.refl _).drew_⟩


end Go.Proofs.Ytlddileiecnkjaa
