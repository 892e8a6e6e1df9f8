/-
  What is proved here: how far all nodes are, as the code reckons it; DistFrom and DistOf, on both sides; DistFrom and DistOf of the model; plain words on the rows of all distances; words on a list of lists of numbers that is memory of its own, each list, too; and the laws' small functions that mark it and look at the marks; plain words on a table of distances; a box of one list of numbers that grows; slices.Concat over three slices of arcs makes a new list of all of them; impl.Weighed puts an arc of a new weight in its place. No conditions beyond those that each theorem states.
-/
import Derived.Test.YtlddileiecnkjaaV9G10
import Derived.Test.YtlddileiecnkjaaV9G02
import Derived.Test.YtlddileiecnkjaaV9G06
import Derived.Test.YtlddileiecnkjaaV9G03
import Derived.Test.YtlddileiecnkjaaV9G05
import Derived.Test.YtlddileiecnkjaaV9G04
import Derived.Test.YtlddileiecnkjaaV9G01
import Derived.Deep.AppendLies
import Derived.Deep.Draws
import Derived.Maps.AppendAt
import Derived.OwnWalk
import Derived.Lib.AppendZeros
set_option linter.unusedSimpArgs false
set_option linter.unusedVariables false
namespace Go.Proofs.Ytlddileiecnkjaa
open Go.RowKit Go.Shelf
attribute [local go_sem] Oper.semAt_some

set_option maxHeartbeats 400000 in
theorem guidedFrom_any (N s : Int) (A : Option Addr) (n c : Nat) (f : Value) (w : World) (hf : f = .func (.func 127) #[] #[]) :
    Calls Try.prog 126 #[.agg #[.int .i64 N, .slice A n c], .int .i64 s, f] w fun e w' =>
      e = .returned (.func (.func 150) #[] #[.pointer (some ⟨w.heap.size + 2, 0, none⟩), .pointer (some ⟨w.heap.size + 1, 0, none⟩), .pointer (some ⟨w.heap.size, 0, none⟩)]) ∧
      w' = ((w.alloc (.cells #[.int .i64 N, .slice A n c] 33)).alloc (.cells #[.int .i64 s] 2)).alloc (.cells #[.func (.func 127) #[] #[]] 151) := by
  subst hf
  go_enter Try.func126, Try.ntmps126
  go_wp2
  go_ret
  exact ⟨rfl, rfl⟩
set_option maxHeartbeats 400000 in
theorem nearestFrom_any (N s : Int) (A : Option Addr) (n c : Nat) (w : World) :
    Calls Try.prog 80 #[.agg #[.int .i64 N, .slice A n c], .int .i64 s] w fun e w' =>
      e = .returned (.func (.func 150) #[] #[.pointer (some ⟨w.heap.size + 3, 0, none⟩), .pointer (some ⟨w.heap.size + 2, 0, none⟩), .pointer (some ⟨w.heap.size + 1, 0, none⟩)]) ∧
      w' = (((w.alloc (.cells #[.int .i64 N, .slice A n c] 33)).alloc (.cells #[.int .i64 N, .slice A n c] 33)).alloc (.cells #[.int .i64 s] 2)).alloc (.cells #[.func (.func 127) #[] #[]] 151) := by
  go_enter Try.func80, Try.ntmps80
  go_wp2_with fail
  refine (guidedFrom_any N s A n c _ _ rfl).mono ?_
  rintro e w1 ⟨rfl, rfl⟩
  go_wp2
  go_ret
  exact ⟨by simp, rfl⟩

set_option maxRecDepth 100000 in
set_option maxHeartbeats 4000000 in
theorem distances_any (N s : Int) (A : Option Addr) (n c : Nat) (L : List Arc3) (hn : n = L.length) (hc : n ≤ c) (ho : okB N L = true) (h0 : 0 ≤ s) (h1 : s < N) (w : World) (H1 : ArcsAt w w.heap.size A L) :
    Calls Try.prog 85 #[.agg #[.int .i64 N, .slice A n c], .int .i64 s] w fun e w' => ∃ E : List Int, e = .returned (.agg (E.map (Value.int .i64)).toArray) ∧ E.length = 24 ∧ E.take N.toNat = distL N L s ∧ Bl w w' := by
  have K1 := Lib.hid H1
  have HN := Lib.hid hn
  have HO := Lib.hid ho
  clear H1 hn ho
  refine (callsIn_wide (n := 0)).1 ?_
  refine callsIn_of_wp_marks Try.func85 rfl trivial ?_ rfl
  simp only [Try.ntmps85, List.size_toArray, List.length_cons, List.length_nil, Nat.reduceAdd, Nat.reduceSub, Array.replicate_succ, Array.replicate_zero, List.push_toArray, List.append_toArray, List.nil_append, List.cons_append]
  gi_wp2_with fail
  have hN24 := (okB_elim HO.out).2.1
  gi_loopw [8] (fun i wr => ∃ j : Nat, j ≤ 24 ∧ i = .int .i64 j ∧ Bl ((w.alloc (.cells #[.int .i64 N, .slice A n c] 33)).alloc (.cells #[.int .i64 0, .int .i64 0, .int .i64 0, .int .i64 0, .int .i64 0, .int .i64 0, .int .i64 0, .int .i64 0, .int .i64 0, .int .i64 0, .int .i64 0, .int .i64 0, .int .i64 0, .int .i64 0, .int .i64 0, .int .i64 0, .int .i64 0, .int .i64 0, .int .i64 0, .int .i64 0, .int .i64 0, .int .i64 0, .int .i64 0, .int .i64 0] 114)) wr ∧
      ∃ E, NumsAt wr (w.heap.size + 2) E ∧ ∀ i (h : i < E.length), i < j → E[i] = -1) (fun i _ => 24 - (intOf i).toNat)
  case atStart =>
    refine ⟨0, by omega, rfl, (Bl.refl _).alloc_ _, List.replicate 24 0, ⟨by simp, by simp, fun i hi => ?_, fun i hi => ?_⟩, fun i h h' => absurd h' (by omega)⟩
    · rw [List.length_replicate] at hi
      rw [List.getElem_replicate]
      match i, hi with
      | 0, _ | 1, _ | 2, _ | 3, _ | 4, _ | 5, _ | 6, _ | 7, _ | 8, _ | 9, _ | 10, _ | 11, _ | 12, _ | 13, _ | 14, _ | 15, _ | 16, _ | 17, _ | 18, _ | 19, _ | 20, _ | 21, _ | 22, _ | 23, _ => simp [go_sem]
      | (k + 24), h => exact absurd h (by omega)
    · simp [go_sem]
  case round =>
    obtain ⟨j, hj, rfl, hbl, E, hE, hneg⟩ := hrel
    have HE := Lib.hid hE
    have NG := Lib.hid hneg
    have hbs := hbl.size
    have HB := Lib.hid hbl
    simp only [World.size_alloc] at hbs
    have hdl := hE.lt
    clear hneg hbl
    by_cases hlt : j < 24
    · have q0 := hE.cell j (by rw [hE.len]; exact hlt)
      have q1 := hE.free j hlt
      generalize E[j]'(by rw [hE.len]; exact hlt) = ej at q0
      clear hE
      gi_wp2_with fail
      go_roundw
      case rel =>
        refine ⟨j + 1, by omega, by go_num, HB.out.set_ (by simp) _, E.set j (-1), HE.out.set (-1), fun i h hi => ?_⟩
        rw [List.getElem_set]
        split
        · rfl
        · exact NG.out i (by simpa using h) (by omega)
      case measure => simp [intOf]; omega
    · have hE0 : E = keysL 24 [] := List.ext_getElem (by rw [hE.len, keysL_len]) fun i h1 h2 => by
        rw [NG.out i h1 (by have := hE.len; omega)]
        simp [keysL, keyOf]
      have HE0 := Lib.hid hE0
      obtain ⟨hgc0, hgc1⟩ : wr.cell? ⟨w.heap.size, 0, none⟩ = some (.int .i64 N) ∧ wr.cell? ⟨w.heap.size, 1, none⟩ = some (.slice A n c) := by
        have hx := (bcell HB.out).1
        exact ⟨(hx _ _ (by simp; omega)).trans (by simp [go_sem]), (hx _ _ (by simp; omega)).trans (by simp [go_sem])⟩
      clear hE hE0
      gi_wp2_with fail
      refine ⟨trivial, rfl, CallsIn.mono (callsIn_wide.2 (nearestFrom_any N s A n c _)) ?_⟩
      rintro e w3 ⟨rfl, hw3⟩
      have HW3 := Lib.hid hw3
      clear hw3
      gi_wp2_with fail
      have hs3 : w3.heap.size = wr.heap.size + 4 := by rw [HW3.out]; simp
      have hb3 : Bl wr w3 := by rw [HW3.out]; exact ((((Bl.refl wr).alloc_ _).alloc_ _).alloc_ _).alloc_ _
      have hbw : Bl w wr := (((Bl.refl w).alloc_ _).alloc_ _).trans_ HB.out
      have hin : NIn w3 (wr.heap.size + 3) (wr.heap.size + 2) (wr.heap.size + 1) N s A n c L := by
        refine ⟨?_, ?_, ?_, ?_, (K1.out.bl hbw).bl hb3⟩ <;> (rw [HW3.out]; simp [go_sem])
      have hn0 : NumsAt w3 (w.heap.size + 2) (keysL 24 []) := by rw [← HE0.out]; exact HE.out.bl hb3
      have HN0 := Lib.hid hn0
      clear hgc0 hgc1
      refine wpIn_range (gf := 150) (lb := #[.pointer (some ⟨wr.heap.size + 3, 0, none⟩), .pointer (some ⟨wr.heap.size + 2, 0, none⟩), .pointer (some ⟨wr.heap.size + 1, 0, none⟩)]) ?e1 ?e2
        (near_stops N s A n c (wr.heap.size + 3) (wr.heap.size + 2) (wr.heap.size + 1) L HN.out hc HO.out h0 h1 w3 hin) (Bl.refl _) (fun i hi => inBlocks_lt hin hi) ?e3
        (fun pre K W' => (∀ i, K i ↔ i = w.heap.size + 2) ∧ NumsAt W' (w.heap.size + 2) (keysL 24 pre))
        (fun _ _ _ _ => False)
        (fun pre x a K W' => ∃ xb, (∀ i, K i ↔ (i = w.heap.size + 2 ∨ i = xb)) ∧ NumsAt W' (w.heap.size + 2) (keysL 24 pre) ∧ (xb ≠ w.heap.size + 2 ∧ W'.cell? ⟨xb, 0, none⟩ = some (.int .i64 x.1) ∧ W'.cell? ⟨xb, 1, none⟩ = some (.int .i64 x.2)) ∧
          a = { tmps := #[.agg #[.int .i64 N, .slice A n c], .int .i64 s, .pointer (some ⟨w.heap.size, 0, none⟩), undef, .pointer (some ⟨w.heap.size + 1, 0, none⟩), .pointer (some ⟨w.heap.size + 1 + 1, 0, none⟩), u6, .pointer (some ⟨xb, 0, none⟩), .int .i64 j, .bool (decide ((j : Int) < 24)), u10, u11, u12, u13,
            .agg #[.int .i64 N, .slice A n c], .int .i64 s, .func (.func 150) #[] #[.pointer (some ⟨wr.heap.size + 3, 0, none⟩), .pointer (some ⟨wr.heap.size + 2, 0, none⟩), .pointer (some ⟨wr.heap.size + 1, 0, none⟩)], .agg #[.int .i64 x.1, .int .i64 x.2], undef, undef, undef, undef, undef, undef], defers := [] })
        (fun i => i = w.heap.size + 2) ?hK0 ?hI (fun _ _ _ _ _ h _ => h) ?hM ?hlt ⟨fun i => Iff.rfl, hn0⟩ ?assign ?body ?done (fun _ _ _ _ _ _ _ h _ _ _ => h.elim)
      case e1 => rfl
      case e2 => exact enters_of Try.func150 (by kernel_rfl) rfl
      case e3 => exact fun x => rfl
      case hK0 =>
        rintro i rfl hi
        have hd := HE.out.lt
        rcases hi with h | h | h | ⟨hl, h⟩
        · omega
        · omega
        · omega
        · obtain ⟨g, off, rfl, hg, -⟩ := K1.out hl
          have : g = w.heap.size + 2 := by simpa [blockOf] using h
          omega
      case hI =>
        rintro pre K X Y ⟨hk, hnum⟩ ht
        exact ⟨hk, hnum.turn ht (fun h => h ((hk _).2 rfl))⟩
      case hM =>
        rintro pre x a K X Y ⟨xb, hk, hnum, ⟨hne, hc0, hc1⟩, he⟩ ht
        have hx := World.block_lt_of_cell? _ _ hc0
        have hs := fun o => (ht.cells hx (fun h => h ((hk _).2 (.inr rfl))) o).1
        exact ⟨xb, hk, hnum.turn ht (fun h => h ((hk _).2 (.inl rfl))), ⟨hne, (hs 0).trans hc0, (hs 1).trans hc1⟩, he⟩
      case hlt =>
        rintro pre K X ⟨hk, hnum⟩ i hi
        rw [(hk i).1 hi]
        exact hnum.lt
      case assign =>
        rintro l pre ⟨x, y⟩ K W R ⟨hk, hnum⟩ hpre hR
        have HK := Lib.hid hk
        have HNM := Lib.hid hnum
        have HR := Lib.hid hR
        clear hk hnum hpre hR hs3 hb3 hbw hin hn0
        dsimp only [encI]
        gi_wp2_with fail
        have hlt := HNM.out.lt
        refine HR.out _ (fun i => i = w.heap.size + 2 ∨ i = W.heap.size) _ ⟨Turn.of_bl (by repeat' (first | exact Bl.refl _ | with_reducible assumption | with_reducible refine Bl.drew_ ?_ | with_reducible refine Bl.drewN_ ?_ _ | with_reducible refine Bl.alloc_ ?_ _ | with_reducible refine Bl.trans_ ?_ (by assumption) | with_reducible refine Bl.trans_ ?_ (And.left (by assumption)))), fun i hi => hi.imp (fun h => (HK.out i).2 h) (fun h => by rw [h]; exact Nat.le_refl _)⟩ ⟨W.heap.size, fun i => Iff.rfl, HNM.out.bl (by repeat' (first | exact Bl.refl _ | with_reducible assumption | with_reducible refine Bl.drew_ ?_ | with_reducible refine Bl.drewN_ ?_ _ | with_reducible refine Bl.alloc_ ?_ _ | with_reducible refine Bl.trans_ ?_ (by assumption) | with_reducible refine Bl.trans_ ?_ (And.left (by assumption)))), ⟨by omega, by simp [go_sem], by simp [go_sem]⟩, rfl⟩
      case body =>
        rintro l pre ⟨x, y⟩ a₁ K W ⟨xb, hk, hnum, ⟨hne, hc0, hc1⟩, rfl⟩ ⟨Z, hZ⟩
        obtain ⟨f1, f2, f3, -, -⟩ := NextFacts (arcsIn_of_ok HO.out) hN24 hZ
        simp only at f1 f2 f3
        obtain ⟨u, rfl⟩ : ∃ u : Nat, y = u := ⟨y.toNat, by omega⟩
        have hu : u < 24 := by omega
        have hu0 : (0 : Int) ≤ (u : Int) := by omega
        have hu1 : (u : Int) < 24 := by omega
        have hkl := keysL_len 24 pre
        have q0 := hnum.cell u (by rw [hkl]; exact hu)
        have q1 := hnum.free u hu
        generalize (keysL 24 pre)[u]'(by rw [hkl]; exact hu) = ej at q0
        have hdl' := hnum.lt
        have HK := Lib.hid hk
        have HNM := Lib.hid hnum
        have F3 := Lib.hid f3
        clear hk hnum f1 f2 f3 hs3 hb3 hbw hin hn0 hZ hkl
        simp only at hc0 hc1
        gi_wp2_with fail
        refine ⟨fun i => i = w.heap.size + 2, ⟨Turn.set (p := ⟨w.heap.size + 2, u, none⟩) (Turn.refl K W) (.inl ((HK.out _).2 (.inl rfl))) _, fun i hi => .inl ((HK.out i).2 (.inl hi))⟩, fun i => Iff.rfl, ?_⟩
        have e : keysL 24 (pre ++ [(x, (u : Int))]) = (keysL 24 pre).set u x := keysL_snoc (x := (x, (u : Int))) F3.out hu0
        rw [e]
        exact HNM.out.set x
      case done =>
        rintro D xs K W hD hall ⟨hk, hnum⟩ hT hKD hdef
        have HK := Lib.hid hk
        have HNM := Lib.hid hnum
        have HT := Lib.hid hT
        have HA := Lib.hid hall
        have HD := Lib.hid hdef
        clear hk hnum hT hall hdef hs3 hb3 hbw hin hn0
        have hrb : W.there (w.heap.size + 1) 0 24 := by
          have hT2 := HT.out
          refine there_of_cells fun i hi => ?_
          have hbs' := HB.out.size
          simp only [World.size_alloc] at hbs'
          have hl3 : w.heap.size + 1 < w3.heap.size := by rw [HW3.out]; simp; omega
          obtain ⟨x1, x2⟩ := HT.out.cells hl3 (fun h => by omega) i
          obtain ⟨y1, y2⟩ := bcell HB.out
          have hl0 : w.heap.size + 1 < wr.heap.size := by omega
          have z1 : w3.cell? ⟨w.heap.size + 1, i, none⟩ = wr.cell? ⟨w.heap.size + 1, i, none⟩ := by rw [HW3.out]; exact (bcell (show Bl wr _ from (by repeat' (first | exact Bl.refl _ | with_reducible assumption | with_reducible refine Bl.drew_ ?_ | with_reducible refine Bl.drewN_ ?_ _ | with_reducible refine Bl.alloc_ ?_ _ | with_reducible refine Bl.trans_ ?_ (by assumption) | with_reducible refine Bl.trans_ ?_ (And.left (by assumption)))))).1 _ _ hl0
          have z2 : w3.frozen? ⟨w.heap.size + 1, i, none⟩ = wr.frozen? ⟨w.heap.size + 1, i, none⟩ := by rw [HW3.out]; exact (bcell (show Bl wr _ from (by repeat' (first | exact Bl.refl _ | with_reducible assumption | with_reducible refine Bl.drew_ ?_ | with_reducible refine Bl.drewN_ ?_ _ | with_reducible refine Bl.alloc_ ?_ _ | with_reducible refine Bl.trans_ ?_ (by assumption) | with_reducible refine Bl.trans_ ?_ (And.left (by assumption)))))).2 _ _ hl0
          rw [x1, x2, z1, z2, y1 _ _ (by simp), y2 _ _ (by simp)]
          match i, hi with
          | 0, _ | 1, _ | 2, _ | 3, _ | 4, _ | 5, _ | 6, _ | 7, _ | 8, _ | 9, _ | 10, _ | 11, _ | 12, _ | 13, _ | 14, _ | 15, _ | 16, _ | 17, _ | 18, _ | 19, _ | 20, _ | 21, _ | 22, _ | 23, _ => simp [go_sem]
          | (k + 24), h => exact absurd h (by omega)
        have HRB := Lib.hid hrb
        have hsz : (Try.prog.info? 114).map (·.size) = some 24 := by kernel_rfl
        have HSZ := Lib.hid hsz
        clear hrb hsz
        gi_wp2_with (first | (refine wpListIn_load_mid rfl 114 (.tmp 5) rfl (w.heap.size + 2) 0 rfl (csI (keysL 24 xs)) _ HNM.out.range Try.underlying114 rfl (by rw [csI_len, keysL_len]; exact HSZ.out) ?_) | (refine wpListIn_store_mid rfl 114 (.tmp 4) (.tmp 23) rfl (w.heap.size + 1) 0 (csI (keysL 24 xs)).toArray rfl rfl ?c1 ?c2 (csI_one _) ?_))
        case c1 => simpa [csI_len, keysL_len] using HRB.out
        case c2 => simpa [csI_len, keysL_len] using HSZ.out
        have hl3 : w.heap.size + 1 < w3.heap.size := by
          have := HB.out.size
          rw [HW3.out]
          simp only [World.size_alloc] at this ⊢
          omega
        have hDl : D < W.heap.size := (Array.getElem?_eq_some_iff.1 HD.out).1
        have hts : Turn (fun i => i = w.heap.size + 1) W (W.setCells (w.heap.size + 1) 0 (csI (keysL 24 xs))) := Turn.setCells_ (S := fun i => i = w.heap.size + 1) (w.heap.size + 1) rfl _ _ _ (Turn.refl _ _)
        have hD2 := (hts.block D hDl (by omega)).trans HD.out
        have hnums := NumsAt.stored (keysL_len 24 xs) (Nat.lt_of_lt_of_le hl3 HT.out.size) HRB.out
        have hnums2 := hnums.turn (turn_put (fun i => i = D) _ (.deferred none) rfl) (show ¬ (w.heap.size + 1 = D) by omega)
        refine ⟨by simp, .inl ⟨_, _, rfl, run_takeDeferred hD2, ?_⟩⟩
        refine ⟨_, results_cell_mid rfl _ _ (w.heap.size + 1) (csI (keysL 24 xs)) _ rfl hnums2.range Try.underlying114 rfl (by rw [csI_len, keysL_len]; exact HSZ.out), ?_⟩
        refine ⟨keysL 24 xs, rfl, keysL_len _ _, ?_, ?_⟩
        · rw [keysL_take (by omega)]
          exact HA.out.keys (arcsIn_of_ok HO.out) hN24
        · have hb3 : Bl w w3 := by
            rw [HW3.out]
            exact ((((Bl.refl w).alloc_ _).alloc_ _).trans_ HB.out).trans_ (((((Bl.refl wr).alloc_ _).alloc_ _).alloc_ _).alloc_ _)
          have hbW : Bl w W := Turn.to_bl hb3 HT.out (fun i hi => by rw [hi]; omega)
          have h4 := Bl.setCells_ (w.heap.size + 1) (by omega) (csI (keysL 24 xs)) 0 W hbW
          exact Turn.to_bl h4 (turn_put (fun i => i = D) _ (.deferred none) rfl) (fun i hi => by rw [hi]; omega)

end Go.Proofs.Ytlddileiecnkjaa

set_option linter.unusedSimpArgs false
set_option linter.unusedVariables false
namespace Go.Proofs.Ytlddileiecnkjaa
open Go.RowKit

def distOfI (N : Int) (L : List Arc3) (s t : Int) : Int := if has2 N L s t = true then dAt (distL N L s) t else -1
theorem has2_of {N s t : Int} {L : List Arc3} (h : has2 N L s t = true) : okB N L = true ∧ (0 ≤ s ∧ s < N) ∧ (0 ≤ t ∧ t < N) := by simpa [has2] using h
theorem distL_len {N s : Int} {L : List Arc3} (ho : okB N L = true) (h0 : 0 ≤ s) (h1 : s < N) : (distL N L s).length = N.toNat :=
  (distL_is (arcsIn_of_ok ho) (okB_elim ho).2.1 h0 h1).len


theorem there_new (w : World) (t : TypeId) : (w.alloc (.cells #[.int .i64 0, .int .i64 0, .int .i64 0, .int .i64 0, .int .i64 0, .int .i64 0, .int .i64 0, .int .i64 0, .int .i64 0, .int .i64 0, .int .i64 0, .int .i64 0, .int .i64 0, .int .i64 0, .int .i64 0, .int .i64 0, .int .i64 0, .int .i64 0, .int .i64 0, .int .i64 0, .int .i64 0, .int .i64 0, .int .i64 0, .int .i64 0] t)).there w.heap.size 0 24 := by
  refine there_of_cells fun i hi => ?_
  match i, hi with
  | 0, _ | 1, _ | 2, _ | 3, _ | 4, _ | 5, _ | 6, _ | 7, _ | 8, _ | 9, _ | 10, _ | 11, _ | 12, _ | 13, _ | 14, _ | 15, _ | 16, _ | 17, _ | 18, _ | 19, _ | 20, _ | 21, _ | 22, _ | 23, _ => simp [go_sem]
  | (k + 24), h => exact absurd h (by omega)
theorem size24 : (Try.prog.info? 114).map (·.size) = some 24 := by kernel_rfl

theorem index24 (E : List Int) (hE : E.length = 24) (u : Nat) (hu : u < 24) (w : World) : (Instr.index 114 (.agg (E.map (Value.int .i64)).toArray) (.int .i64 (u : Int))).run Try.prog w = .ok (.int .i64 (dAt E u)) w := by
  have h1 : (0 : Int) ≤ (u : Int) ∧ (u : Int) < 24 := by omega
  have hz : (Go.sizeOf 2).run Try.prog w = .ok 1 w := by kernel_rfl
  have ha : (Go.isAgg 2).run Try.prog w = .ok false w := by kernel_rfl
  have hg : E[u]?.getD (-1) = E[u] := by simp [hE, hu]
  unfold Instr.index
  simp [Sem.run_bind, asIntOf, run_underlying Try.underlying114, Result.andThen, h1, hz, ha, part, dAt, hE, hu]

set_option maxRecDepth 100000 in
set_option maxHeartbeats 1000000 in
theorem implDistOf_any (N s t : Int) (A : Option Addr) (n c : Nat) (L : List Arc3) (hn : n = L.length) (hc : n ≤ c) (w : World) (hm : n ≤ 1048576) (H1 : ArcsAt w w.heap.size A L) :
    Calls Try.prog 23 #[.agg #[.int .i64 N, .slice A n c], .int .i64 s, .int .i64 t] w fun e w' => e = .returned (.int .i64 (distOfI N L s t)) ∧ Bl w w' := by
  have K1 := Lib.hid H1
  have HN := Lib.hid hn
  clear H1 hn
  cases hh : has2 N L s t with
  | false =>
    have HH := Lib.hid hh
    clear hh
    go_enter Try.func23, Try.ntmps23
    go_wp2_with fail
    refine (hasNodes_2 N s t A n c L HN.out (w.heap.size + 1) 2 _ (by omega) (K1.out.bl (by repeat' (first | exact Bl.refl _ | with_reducible assumption | with_reducible refine Bl.drew_ ?_ | with_reducible refine Bl.drewN_ ?_ _ | with_reducible refine Bl.alloc_ ?_ _ | with_reducible refine Bl.trans_ ?_ (by assumption) | with_reducible refine Bl.trans_ ?_ (And.left (by assumption))))) (by simp) (by simp [go_sem]) (by simp [go_sem])).mono ?_
    rintro e w1 ⟨rfl, hb1⟩
    rw [HH.out]
    go_wp2
    go_ret
    exact ⟨ret_int (by unfold distOfI; rw [if_neg (by rw [HH.out]; simp)]), (by repeat' (first | exact Bl.refl _ | with_reducible assumption | with_reducible refine Bl.drew_ ?_ | with_reducible refine Bl.drewN_ ?_ _ | with_reducible refine Bl.alloc_ ?_ _ | with_reducible refine Bl.trans_ ?_ (by assumption) | with_reducible refine Bl.trans_ ?_ (And.left (by assumption))))⟩
  | true =>
    have HH := Lib.hid hh
    obtain ⟨ho, ⟨hs0, hs1⟩, ht0, ht1⟩ := has2_of hh
    have hN24 := (okB_elim ho).2.1
    have HO := Lib.hid ho
    obtain ⟨u, rfl⟩ : ∃ u : Nat, t = u := ⟨t.toNat, by omega⟩
    clear hh ho
    go_enter Try.func23, Try.ntmps23
    go_wp2_with fail
    refine (hasNodes_2 N s u A n c L HN.out (w.heap.size + 1) 2 _ (by omega) (K1.out.bl (by repeat' (first | exact Bl.refl _ | with_reducible assumption | with_reducible refine Bl.drew_ ?_ | with_reducible refine Bl.drewN_ ?_ _ | with_reducible refine Bl.alloc_ ?_ _ | with_reducible refine Bl.trans_ ?_ (by assumption) | with_reducible refine Bl.trans_ ?_ (And.left (by assumption))))) (by simp) (by simp [go_sem]) (by simp [go_sem])).mono ?_
    rintro e w1 ⟨rfl, hb1⟩
    rw [HH.out]
    have hx := (bcell hb1).1
    have q0 : w1.cell? ⟨w.heap.size, 0, none⟩ = some (.int .i64 N) := (hx _ _ (by simp; omega)).trans (by simp [go_sem])
    have q1 : w1.cell? ⟨w.heap.size, 1, none⟩ = some (.slice A n c) := (hx _ _ (by simp; omega)).trans (by simp [go_sem])
    have hbw : Bl w w1 := (((Bl.refl w).alloc_ _).alloc_ _).trans_ hb1
    clear hx hb1
    go_wp2_with fail
    refine (distances_any N s A n c L HN.out hc HO.out hs0 hs1 _ (K1.out.bl hbw)).mono ?_
    rintro e w2 ⟨E, rfl, hE, hEd, hb2⟩
    have EL := Lib.hid hE
    have ED := Lib.hid hEd
    clear hE hEd q0 q1
    have hix := index24 E EL.out u (by omega) w2
    have hd : dAt E (u : Int) = distOfI N L s u := by
      unfold distOfI
      rw [if_pos HH.out, ← ED.out]
      unfold dAt
      simp only [List.getD_eq_getElem?_getD]
      rw [List.getElem?_take, if_pos (by omega)]
    rw [hd] at hix
    clear hd
    go_wp2
    go_ret
    exact ⟨ret_int rfl, hbw.trans_ hb2⟩


end Go.Proofs.Ytlddileiecnkjaa

set_option linter.unusedSimpArgs false
set_option linter.unusedVariables false
namespace Go.Proofs.Ytlddileiecnkjaa
open Go.RowKit

theorem nodeB_ok {N v : Int} {L : List Arc3} (ho : okB N L = true) : nodeB N v = decide (0 ≤ v ∧ v < N) := by
  obtain ⟨h1, h2, -⟩ := okB_elim ho
  unfold nodeB inB
  have : wrap64 (N - 1) = N - 1 := by unfold wrap64; omega
  rw [this, Bool.eq_iff_iff]
  simp only [decide_eq_true_eq]
  omega



end Go.Proofs.Ytlddileiecnkjaa

set_option linter.unusedSimpArgs false
set_option linter.unusedVariables false
namespace Go.Proofs.Ytlddileiecnkjaa
open Go.RowKit


end Go.Proofs.Ytlddileiecnkjaa

set_option linter.unusedSimpArgs false
set_option linter.unusedVariables false
namespace Go.Proofs.Ytlddileiecnkjaa
open Go.RowKit

/-- The head of a list: where it lies, how long it is, and how long it may be. -/
abbrev SlH := Option Addr × Nat × Nat
def slV (x : SlH) : Value := .slice x.1 x.2.1 x.2.2
theorem slV_own (x : SlH) : (slV x).ownBlock = blockOf x.1 := ownBlock_slice _ _ _
/-- pv owns the heads G of the lists R, and each of these owns its numbers, in blocks of which no two are the same. -/
structure RowsG (w : World) (B : Nat) (pv : Value) (G : List SlH) (R : List (List Int)) : Prop where
  own : Owns 58 1 w B pv G.length (G.map slV)
  len : G.length = R.length
  row : ∀ j (h : j < G.length) (h' : j < R.length), OwnN w B (slV G[j]) R[j] ∧ ∀ g, (slV G[j]).ownBlock = some g → pv.ownBlock ≠ some g
  apart : ∀ i j (hi : i < G.length) (hj : j < G.length), i ≠ j → ∀ g, (slV G[i]).ownBlock = some g → (slV G[j]).ownBlock ≠ some g
variable {w w' : World} {B : Nat} {pv pv' : Value} {G : List SlH} {R : List (List Int)}
theorem RowsG.bl (h : RowsG w B pv G R) (b : Bl w w') : RowsG w' B pv G R :=
  ⟨h.own.bl b, h.len, fun j h1 h2 => ⟨(h.row j h1 h2).1.bl b, (h.row j h1 h2).2⟩, h.apart⟩
theorem RowsG.low {B' : Nat} (h : RowsG w B' pv G R) (hB : B ≤ B') : RowsG w B pv G R :=
  ⟨h.own.low hB, h.len, fun j h1 h2 => ⟨(h.row j h1 h2).1.low hB, (h.row j h1 h2).2⟩, h.apart⟩
theorem RowsG.turn {S : Nat → Prop} (h : RowsG w B pv G R) (k : Turn S w w') (hS : ∀ g, B ≤ g → g < w.heap.size → ¬ S g) : RowsG w' B pv G R :=
  ⟨h.own.turn k (fun g hg => by have := Owns.lt h.own g hg; exact hS g this.1 this.2), h.len, fun j h1 h2 => ⟨by
    have h3 := (h.row j h1 h2).1
    exact Owns.turn h3 k (fun g hg => by have := Owns.lt h3 g hg; exact hS g this.1 this.2), (h.row j h1 h2).2⟩, h.apart⟩
theorem RowsG.nil_ (w : World) (B : Nat) (h : Owns 58 1 w B pv 0 []) : RowsG w B pv [] [] :=
  ⟨h, rfl, fun j h1 => absurd h1 (by simp), fun i j h1 => absurd h1 (by simp)⟩
theorem RowsG.lt (h : RowsG w B pv G R) {j : Nat} (hj : j < G.length) {g : Nat} (hg : (slV G[j]).ownBlock = some g) : B ≤ g ∧ g < w.heap.size :=
  Owns.lt (h.row j hj (by rw [← h.len]; exact hj)).1 g hg
/-- The head says how long its list is. -/
theorem RowsG.head (h : RowsG w B pv G R) {j : Nat} (hj : j < G.length) : (G[j]).2.1 = (R[j]'(by rw [← h.len]; exact hj)).length := by
  obtain ⟨A, c, e, -⟩ := OwnN.shape (h.row j hj (by rw [← h.len]; exact hj)).1
  unfold slV at e
  injection e
theorem RowsG.snoc {r : List Int} {x : SlH} {k : Nat} (h : RowsG w B pv G R) (hr : OwnN w B (slV x) r)
    (hne : ∀ g, (slV x).ownBlock = some g → pv.ownBlock ≠ some g ∧ ∀ j (h : j < G.length), (slV G[j]).ownBlock ≠ some g) (hk : k = G.length)
    (hown : w'.ownsRow B 58 1 pv' (k + 1) (G.map slV ++ [slV x])) (hg : w.grownBy w' pv.ownBlock) (hb : pv'.ownBlock = pv.ownBlock ∨ pv'.ownBlock = some w.heap.size) : RowsG w' B pv' (G ++ [x]) (R ++ [r]) := by
  subst hk
  have keep : ∀ (v : Value) (V : List Int), OwnN w B v V → (∀ g, v.ownBlock = some g → pv.ownBlock ≠ some g) → OwnN w' B v V ∧ ∀ g, v.ownBlock = some g → pv'.ownBlock ≠ some g := fun v V h1 h2 => by
    refine ⟨Owns.grown_ h1 hg (fun g e h => h2 g e h.symm), fun g e h => ?_⟩
    rcases hb with hb | hb
    · exact h2 g e (hb.symm.trans h)
    · have h3 := hb.symm.trans h
      have := Owns.lt h1 g e
      injection h3 with h3
      omega
  have hlen := h.len
  refine ⟨by rw [List.length_append, List.map_append]; exact hown, by simp [h.len], fun j h1 h2 => ?_, fun i j hi hj hij => ?_⟩
  · by_cases e : j < G.length
    · obtain ⟨a1, a2⟩ := h.row j e (by omega)
      have e1 : (R ++ [r])[j]'h2 = R[j]'(by omega) := List.getElem_append_left (by omega)
      have e2 : (G ++ [x])[j]'h1 = G[j] := List.getElem_append_left e
      rw [e1, e2]
      exact keep _ _ a1 a2
    · obtain rfl : j = G.length := by simp at h1; omega
      have e1 : (R ++ [r])[G.length]'h2 = r := by simp [h.len]
      have e2 : (G ++ [x])[G.length]'h1 = x := by simp
      rw [e1, e2]
      exact keep _ _ hr (fun g hg => (hne g hg).1)
  · intro g h1
    by_cases ei : i < G.length
    · have e1 : (G ++ [x])[i]'hi = G[i] := List.getElem_append_left ei
      rw [e1] at h1
      by_cases ej : j < G.length
      · have e2 : (G ++ [x])[j]'hj = G[j] := List.getElem_append_left ej
        rw [e2]
        exact h.apart i j ei ej hij g h1
      · obtain rfl : j = G.length := by simp at hj; omega
        have e2 : (G ++ [x])[G.length]'hj = x := by simp
        rw [e2]
        exact fun h2 => (hne g h2).2 i ei h1
    · obtain rfl : i = G.length := by simp at hi; omega
      have e1 : (G ++ [x])[G.length]'hi = x := by simp
      rw [e1] at h1
      have ej : j < G.length := by simp at hj; omega
      have e2 : (G ++ [x])[j]'hj = G[j] := List.getElem_append_left ej
      rw [e2]
      exact (hne g h1).2 j ej
/-- The heads lie at the front of a block. -/
theorem RowsG.cells {A : Option Addr} {n c : Nat} (h : RowsG w B (.slice A n c) G R) (h0 : 0 < G.length) : ∃ g, A = some ⟨g, 0, none⟩ ∧ B ≤ g ∧ g < w.heap.size ∧ ∀ j (hj : j < G.length), w.cell? ⟨g, j, none⟩ = some (slV G[j]) := by
  obtain ⟨A', c', e, -, -, -, hs⟩ := Owns.shape h.own
  injection e with e1 e2 e3
  subst e1
  obtain ⟨g, rfl, hB, hg, -, hc⟩ := hs h0
  exact ⟨g, rfl, hB, hg, fun j hj => by rw [hc j (by simpa using hj)]; simp⟩
theorem RowsG.slice (h : RowsG w B pv G R) : ∃ A c, pv = .slice A R.length c := by
  obtain ⟨A, c, e, -⟩ := Owns.shape h.own
  exact ⟨A, c, by rw [e, h.len]⟩
theorem RowsG.rowsAt {A : Option Addr} {n c : Nat} (h : RowsG w B (.slice A n c) G R) : RowsAt w B w.heap.size A R := fun h0 => by
  have hl := h.len
  obtain ⟨g, rfl, hB, hg, hc⟩ := h.cells (by omega)
  refine ⟨g, 0, rfl, ⟨hB, hg⟩, fun j hj => ?_⟩
  have hj' : j < G.length := by omega
  obtain ⟨A', c', e, -, h1, -, h3⟩ := OwnN.shape (h.row j hj' hj).1
  refine ⟨A', c', by rw [Nat.zero_add, hc j hj', e], h1, fun g' e' _ => (h3 g' e').1⟩

/-- All lists of G are marked, one behind the other, from k on. -/
structure MarkG (w : World) (B : Nat) (A : Option Addr) (G : List SlH) (R : List (List Int)) (k : Int) : Prop where
  len : G.length = R.length
  cell : 0 < G.length → ∃ g, A = some ⟨g, 0, none⟩ ∧ B ≤ g ∧ g < w.heap.size ∧ ∀ j (hj : j < G.length), w.cell? ⟨g, j, none⟩ = some (slV G[j])
  row : ∀ j (h : j < G.length) (h' : j < R.length), (G[j]).2.1 = R[j].length ∧ Marks w (G[j]).1 R[j].length (k + (sumL (R.take j) : Nat)) ∧ ∀ g, blockOf (G[j]).1 = some g → B ≤ g ∧ g < w.heap.size
theorem Marks.turn {A : Option Addr} {n : Nat} {k : Int} {S : Nat → Prop} (h : Marks w A n k) (t : Turn S w w') (hS : ∀ g, blockOf A = some g → ¬ S g) : Marks w' A n k := fun h0 => by
  obtain ⟨g, off, e, hg, hc⟩ := h h0
  exact ⟨g, off, e, Nat.lt_of_lt_of_le hg t.size, fun j hj => by rw [t.cell hg (hS g (by rw [e]; rfl))]; exact hc j hj⟩
theorem MarkG.turn {A : Option Addr} {k : Int} {S : Nat → Prop} (h : MarkG w B A G R k) (t : Turn S w w') (hS : ∀ g, B ≤ g → g < w.heap.size → ¬ S g) : MarkG w' B A G R k :=
  ⟨h.len, fun h0 => by
    obtain ⟨g, e, hB, hg, hc⟩ := h.cell h0
    exact ⟨g, e, hB, Nat.lt_of_lt_of_le hg t.size, fun j hj => by rw [t.cell hg (hS g hB hg)]; exact hc j hj⟩, fun j h1 h2 => by
    obtain ⟨a1, a2, a3⟩ := h.row j h1 h2
    exact ⟨a1, a2.turn t (fun g e => hS g (a3 g e).1 (a3 g e).2), fun g e => ⟨(a3 g e).1, Nat.lt_of_lt_of_le (a3 g e).2 t.size⟩⟩⟩
theorem MarkG.bl {A : Option Addr} {k : Int} (h : MarkG w B A G R k) (b : Bl w w') : MarkG w' B A G R k := h.turn (Turn.of_bl (S := fun _ => False) b) (fun _ _ _ h => h)



end Go.Proofs.Ytlddileiecnkjaa

set_option linter.unusedSimpArgs false
set_option linter.unusedVariables false
namespace Go.Proofs.Ytlddileiecnkjaa
open Go.RowKit

/-- All are nodes, and not too many. -/
def nodesB (N : Int) (V : List Int) : Bool := (V.all fun v => decide (0 ≤ v ∧ v < N)) && decide (V.length ≤ 60)
def matB (N : Int) (L : List Arc3) (F T : List Int) : Bool := okB N L && (nodesB N F && nodesB N T)
def matRow (N : Int) (L : List Arc3) (T : List Int) (s : Int) : List Int := T.map fun t => dAt (distL N L s) t
def matR (N : Int) (L : List Arc3) (F T : List Int) : List (List Int) := F.map (matRow N L T)
def matL (N : Int) (L : List Arc3) (F T : List Int) : List (List Int) := if matB N L F T = true then matR N L F T else []
theorem matL_no {N : Int} {L : List Arc3} {F T : List Int} (h : matB N L F T = false) : matL N L F T = [] := if_neg (by rw [h]; simp)
theorem matL_yes {N : Int} {L : List Arc3} {F T : List Int} (h : matB N L F T = true) : matL N L F T = matR N L F T := if_pos h
theorem nodesB_elim {N : Int} {V : List Int} (h : nodesB N V = true) : (∀ v ∈ V, 0 ≤ v ∧ v < N) ∧ V.length ≤ 60 := by
  unfold nodesB at h
  simpa [Bool.and_eq_true] using h
theorem matB_elim {N : Int} {L : List Arc3} {F T : List Int} (h : matB N L F T = true) : okB N L = true ∧ nodesB N F = true ∧ nodesB N T = true := by
  unfold matB at h
  simpa [Bool.and_eq_true] using h
theorem matRow_take (N : Int) (L : List Arc3) (T : List Int) (s : Int) {k : Nat} (h : k < T.length) : matRow N L (T.take (k + 1)) s = matRow N L (T.take k) s ++ [dAt (distL N L s) T[k]] := by
  unfold matRow
  rw [List.take_succ_eq_append_getElem h, List.map_append]
  rfl
theorem matRow_len (N : Int) (L : List Arc3) (T : List Int) (s : Int) : (matRow N L T s).length = T.length := by simp [matRow]
theorem matR_len (N : Int) (L : List Arc3) (F T : List Int) : (matR N L F T).length = F.length := by simp [matR]
theorem matR_take (N : Int) (L : List Arc3) (F T : List Int) {k : Nat} (h : k < F.length) : matR N L (F.take (k + 1)) T = matR N L (F.take k) T ++ [matRow N L T F[k]] := by
  unfold matR
  rw [List.take_succ_eq_append_getElem h, List.map_append]
  rfl
theorem sumL_bd {m : Nat} : ∀ {R : List (List Int)}, (∀ r ∈ R, r.length ≤ m) → sumL R ≤ R.length * m
  | [], _ => by simp [sumL]
  | r :: R, h => by
    have h1 := h r (by simp)
    have h2 := sumL_bd (R := R) (fun x hx => h x (by simp [hx]))
    simp only [sumL, List.length_cons, Nat.add_mul]
    omega
theorem matL_small (N : Int) (L : List Arc3) (F T : List Int) : (matL N L F T).length ≤ 60 ∧ (∀ r ∈ matL N L F T, r.length ≤ 60) ∧ sumL (matL N L F T) ≤ 1048576 := by
  have h : (matL N L F T).length ≤ 60 ∧ (∀ r ∈ matL N L F T, r.length ≤ 60) := by
    unfold matL
    split
    · rename_i hm
      obtain ⟨-, h1, h2⟩ := matB_elim hm
      refine ⟨by rw [matR_len]; exact (nodesB_elim h1).2, fun r hr => ?_⟩
      unfold matR at hr
      obtain ⟨s, -, rfl⟩ := List.mem_map.1 hr
      rw [matRow_len]; exact (nodesB_elim h2).2
    · simp
  refine ⟨h.1, h.2, ?_⟩
  have h1 := sumL_bd h.2
  have h2 := Nat.mul_le_mul_right 60 h.1
  omega

/-- A box in which a list of numbers of its own grows. -/
structure RX (W : World) (rb : Nat) (q : Value) (V : List Int) (wr : World) : Prop where
  box : wr.rowIs rb 58 1 (fun _ => q)
  own : OwnN wr (rb + 1) q V
  bl : Bl W wr
  lo : W.heap.size ≤ rb
section
variable {W wr w2 : World} {rb : Nat} {q : Value} {V : List Int}
theorem RX.new (w : World) : RX w w.heap.size (.slice none 0 0) [] (w.alloc (.cells #[.slice none 0 0] 58)) := by
  refine ⟨?_, OwnN.nil_ _ _, Bl.alloc_ (Bl.refl w) _, Nat.le_refl _⟩
  exact World.rowIs_alloc w #[.slice none 0 0] 58 _ (fun i hi => by
    match i, hi with
    | 0, _ => rfl
    | i + 1, hi => exact absurd hi (by simp))
theorem RX.bl_ (h : RX W rb q V wr) (hb : Bl wr w2) : RX W rb q V w2 := ⟨row_bl h.box hb, h.own.bl hb, h.bl.trans_ hb, h.lo⟩
theorem RX.facts (h : RX W rb q V wr) : wr.cell? ⟨rb, 0, none⟩ = some q ∧ wr.frozen? ⟨rb, 0, none⟩ = false ∧ rb < wr.heap.size :=
  ⟨h.box.cell (i := 0) (by omega), h.box.frozen 0, h.box.lt⟩
theorem RX.grown_ (h : RX W rb q V wr) (hg : wr.grownBy w2 q.ownBlock) : w2.rowIs rb 58 1 (fun _ => q) ∧ Bl W w2 := by
  have l1 := h.lo
  exact ⟨World.rowIs.of_block h.box (hg.block rb h.box.lt (fun e => by have := (Owns.lt h.own rb e.symm).1; omega)), h.bl.grown_ hg (fun g e => by
    have := (Owns.lt h.own g e).1
    omega)⟩
theorem RX.app (h : RX W rb q V wr) (hg : wr.grownBy w2 q.ownBlock) {q2 : Value} {V2 : List Int} (ho : OwnN w2 (rb + 1) q2 V2) : RX W rb q2 V2 (w2.setCell ⟨rb, 0, none⟩ q2) := by
  obtain ⟨a, b⟩ := h.grown_ hg
  have l1 := h.lo
  refine ⟨?_, Owns.setOther ho (fun g hg e => by have := (Owns.lt ho g hg).1; have e' : g = rb := e; omega) q2, b.set_ (by show W.heap.size ≤ rb; omega) q2, h.lo⟩
  have h1 := a.set 0 q2
  refine h1.congr (fun i hi => ?_)
  have : i = 0 := by omega
  subst this
  rw [if_pos rfl]
end

end Go.Proofs.Ytlddileiecnkjaa

set_option linter.unusedSimpArgs false
set_option linter.unusedVariables false
namespace Go.Proofs.Ytlddileiecnkjaa
open Go.RowKit



section
variable {w w' : World} {B B' size n : Nat} {A : Option Addr} {xs : List Value}
end

section
variable {P : Program} (w : World)





end







end Go.Proofs.Ytlddileiecnkjaa

set_option linter.unusedSimpArgs false
set_option linter.unusedVariables false
namespace Go.Proofs.Ytlddileiecnkjaa
open Go.RowKit

/-- A graph and a flag are left; zero where the flag is false. -/
def WRes (ok : Bool) (N : Int) (M : List Arc3) (w : World) (e : Ending) (w' : World) : Prop :=
  ∃ v, e = .returned (.tuple #[.agg #[.int .i64 (if ok = true then N else 0), v], .bool ok]) ∧ OwnA w' w.heap.size v (if ok = true then M else []) ∧ Bl w w'
theorem WRes.no {N : Int} {M : List Arc3} {w w' : World} {ok : Bool} (h : ok = false) (hb : Bl w w') : WRes ok N M w (.returned (.tuple #[.agg #[.int .i64 0, .slice none 0 0], .bool false])) w' := by
  subst h
  exact ⟨_, rfl, OwnA.nil_ _ _, hb⟩

theorem ArcsAt.take_ {w : World} {B : Nat} {A : Option Addr} {L : List Arc3} (h : ArcsAt w B A L) (p : Nat) : ArcsAt w B A (L.take p) := fun h0 => by
  obtain ⟨g, off, e, hg, hc⟩ := h (by rw [List.length_take] at h0; omega)
  refine ⟨g, off, e, hg, fun k hk => ?_⟩
  rw [List.getElem_take]
  exact hc k (by rw [List.length_take] at hk; omega)

theorem OwnA.set_ {w : World} {B : Nat} {v : Value} {L : List Arc3} (h : OwnA w B v L) {p : Addr} (hp : p.block < B) (u : Value) : OwnA (w.setCell p u) B v L :=
  ⟨h.1, h.2.imp id (fun ⟨g, cap, cur, a, b, c, d⟩ => ⟨g, cap, cur, a, b, (Below.heap_setCell w p u g (by omega)).trans c, d⟩)⟩



end Go.Proofs.Ytlddileiecnkjaa
