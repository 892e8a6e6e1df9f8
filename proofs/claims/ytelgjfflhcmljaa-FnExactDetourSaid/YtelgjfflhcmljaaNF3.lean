/-
  What is proved here: how far all nodes are, as the code reckons it. No conditions beyond those that each theorem states.
-/
import Derived.Test.YtelgjfflhcmljaaNF2
set_option linter.unusedSimpArgs false
set_option linter.unusedVariables false
namespace Go.Proofs.Ytelgjfflhcmljaa
open Go.RowKit Go.Shelf
attribute [local go_sem] Oper.semAt_some

set_option maxHeartbeats 400000 in
theorem guidedFrom_any (N s : Int) (A : Option Addr) (n c : Nat) (f : Value) (w : World) (hf : f = .func (.func 144) #[] #[]) :
    Calls Try.prog 143 #[.agg #[.int .i64 N, .slice A n c], .int .i64 s, f] w fun e w' =>
      e = .returned (.func (.func 169) #[] #[.pointer (some ⟨w.heap.size + 2, 0, none⟩), .pointer (some ⟨w.heap.size + 1, 0, none⟩), .pointer (some ⟨w.heap.size, 0, none⟩)]) ∧
      w' = ((w.alloc (.cells #[.int .i64 N, .slice A n c] 29)).alloc (.cells #[.int .i64 s] 2)).alloc (.cells #[.func (.func 144) #[] #[]] 154) := by
  subst hf
  go_enter Try.func143, Try.ntmps143
  go_wp2
  go_ret
  exact ⟨rfl, rfl⟩
set_option maxHeartbeats 400000 in
theorem nearestFrom_any (N s : Int) (A : Option Addr) (n c : Nat) (w : World) :
    Calls Try.prog 106 #[.agg #[.int .i64 N, .slice A n c], .int .i64 s] w fun e w' =>
      e = .returned (.func (.func 169) #[] #[.pointer (some ⟨w.heap.size + 3, 0, none⟩), .pointer (some ⟨w.heap.size + 2, 0, none⟩), .pointer (some ⟨w.heap.size + 1, 0, none⟩)]) ∧
      w' = (((w.alloc (.cells #[.int .i64 N, .slice A n c] 29)).alloc (.cells #[.int .i64 N, .slice A n c] 29)).alloc (.cells #[.int .i64 s] 2)).alloc (.cells #[.func (.func 144) #[] #[]] 154) := by
  go_enter Try.func106, Try.ntmps106
  go_wp2_with fail
  refine (guidedFrom_any N s A n c _ _ rfl).mono ?_
  rintro e w1 ⟨rfl, rfl⟩
  go_wp2
  go_ret
  exact ⟨by simp, rfl⟩

set_option maxRecDepth 100000 in
set_option maxHeartbeats 4000000 in
theorem distances_any (N s : Int) (A : Option Addr) (n c : Nat) (L : List Arc3) (hn : n = L.length) (hc : n ≤ c) (ho : okB N L = true) (h0 : 0 ≤ s) (h1 : s < N) (w : World) (H1 : ArcsAt w w.heap.size A L) :
    Calls Try.prog 85 #[.agg #[.int .i64 N, .slice A n c], .int .i64 s] w fun e w' => ∃ E : List Int, e = .returned (.agg (E.map (Value.int .i64)).toArray) ∧ E.length = 24 ∧ E.take N.toNat = distL N L s ∧ Bl w w' := by
  have K1 := Lib.hid H1
  have HN := Lib.hid hn
  have HO := Lib.hid ho
  clear H1 hn ho
  refine (callsIn_wide (n := 0)).1 ?_
  refine callsIn_of_wp_marks Try.func85 rfl trivial ?_ rfl
  simp only [Try.ntmps85, List.size_toArray, List.length_cons, List.length_nil, Nat.reduceAdd, Nat.reduceSub, Array.replicate_succ, Array.replicate_zero, List.push_toArray, List.append_toArray, List.nil_append, List.cons_append]
  gi_wp2_with fail
  have hN24 := (okB_elim HO.out).2.1
  gi_loopw [8] (fun i wr => ∃ j : Nat, j ≤ 24 ∧ i = .int .i64 j ∧ Bl ((w.alloc (.cells #[.int .i64 N, .slice A n c] 29)).alloc (.cells #[.int .i64 0, .int .i64 0, .int .i64 0, .int .i64 0, .int .i64 0, .int .i64 0, .int .i64 0, .int .i64 0, .int .i64 0, .int .i64 0, .int .i64 0, .int .i64 0, .int .i64 0, .int .i64 0, .int .i64 0, .int .i64 0, .int .i64 0, .int .i64 0, .int .i64 0, .int .i64 0, .int .i64 0, .int .i64 0, .int .i64 0, .int .i64 0] 98)) wr ∧
      ∃ E, NumsAt wr (w.heap.size + 2) E ∧ ∀ i (h : i < E.length), i < j → E[i] = -1) (fun i _ => 24 - (intOf i).toNat)
  case atStart =>
    refine ⟨0, by omega, rfl, (Bl.refl _).alloc_ _, List.replicate 24 0, ⟨by simp, by simp, fun i hi => ?_, fun i hi => ?_⟩, fun i h h' => absurd h' (by omega)⟩
    · rw [List.length_replicate] at hi
      rw [List.getElem_replicate]
      match i, hi with
      | 0, _ | 1, _ | 2, _ | 3, _ | 4, _ | 5, _ | 6, _ | 7, _ | 8, _ | 9, _ | 10, _ | 11, _ | 12, _ | 13, _ | 14, _ | 15, _ | 16, _ | 17, _ | 18, _ | 19, _ | 20, _ | 21, _ | 22, _ | 23, _ => simp [go_sem]
      | (k + 24), h => exact absurd h (by omega)
    · simp [go_sem]
  case round =>
    obtain ⟨j, hj, rfl, hbl, E, hE, hneg⟩ := hrel
    have HE := Lib.hid hE
    have NG := Lib.hid hneg
    have hbs := hbl.size
    have HB := Lib.hid hbl
    simp only [World.size_alloc] at hbs
    have hdl := hE.lt
    clear hneg hbl
    by_cases hlt : j < 24
    · have q0 := hE.cell j (by rw [hE.len]; exact hlt)
      have q1 := hE.free j hlt
      generalize E[j]'(by rw [hE.len]; exact hlt) = ej at q0
      clear hE
      gi_wp2_with fail
      go_roundw
      case rel =>
        refine ⟨j + 1, by omega, by go_num, HB.out.set_ (by simp) _, E.set j (-1), HE.out.set (-1), fun i h hi => ?_⟩
        rw [List.getElem_set]
        split
        · rfl
        · exact NG.out i (by simpa using h) (by omega)
      case measure => simp [intOf]; omega
    · have hE0 : E = keysL 24 [] := List.ext_getElem (by rw [hE.len, keysL_len]) fun i h1 h2 => by
        rw [NG.out i h1 (by have := hE.len; omega)]
        simp [keysL, keyOf]
      have HE0 := Lib.hid hE0
      obtain ⟨hgc0, hgc1⟩ : wr.cell? ⟨w.heap.size, 0, none⟩ = some (.int .i64 N) ∧ wr.cell? ⟨w.heap.size, 1, none⟩ = some (.slice A n c) := by
        have hx := (bcell HB.out).1
        exact ⟨(hx _ _ (by simp; omega)).trans (by simp [go_sem]), (hx _ _ (by simp; omega)).trans (by simp [go_sem])⟩
      clear hE hE0
      gi_wp2_with fail
      refine ⟨trivial, rfl, CallsIn.mono (callsIn_wide.2 (nearestFrom_any N s A n c _)) ?_⟩
      rintro e w3 ⟨rfl, hw3⟩
      have HW3 := Lib.hid hw3
      clear hw3
      gi_wp2_with fail
      have hs3 : w3.heap.size = wr.heap.size + 4 := by rw [HW3.out]; simp
      have hb3 : Bl wr w3 := by rw [HW3.out]; exact ((((Bl.refl wr).alloc_ _).alloc_ _).alloc_ _).alloc_ _
      have hbw : Bl w wr := (((Bl.refl w).alloc_ _).alloc_ _).trans_ HB.out
      have hin : NIn w3 (wr.heap.size + 3) (wr.heap.size + 2) (wr.heap.size + 1) N s A n c L := by
        refine ⟨?_, ?_, ?_, ?_, (K1.out.bl hbw).bl hb3⟩ <;> (rw [HW3.out]; simp [go_sem])
      have hn0 : NumsAt w3 (w.heap.size + 2) (keysL 24 []) := by rw [← HE0.out]; exact HE.out.bl hb3
      have HN0 := Lib.hid hn0
      clear hgc0 hgc1
      refine wpIn_range (gf := 169) (lb := #[.pointer (some ⟨wr.heap.size + 3, 0, none⟩), .pointer (some ⟨wr.heap.size + 2, 0, none⟩), .pointer (some ⟨wr.heap.size + 1, 0, none⟩)]) ?e1 ?e2
        (near_stops N s A n c (wr.heap.size + 3) (wr.heap.size + 2) (wr.heap.size + 1) L HN.out hc HO.out h0 h1 w3 hin) (Bl.refl _) (fun i hi => inBlocks_lt hin hi) ?e3
        (fun pre K W' => (∀ i, K i ↔ i = w.heap.size + 2) ∧ NumsAt W' (w.heap.size + 2) (keysL 24 pre))
        (fun _ _ _ _ => False)
        (fun pre x a K W' => ∃ xb, (∀ i, K i ↔ (i = w.heap.size + 2 ∨ i = xb)) ∧ NumsAt W' (w.heap.size + 2) (keysL 24 pre) ∧ (xb ≠ w.heap.size + 2 ∧ W'.cell? ⟨xb, 0, none⟩ = some (.int .i64 x.1) ∧ W'.cell? ⟨xb, 1, none⟩ = some (.int .i64 x.2)) ∧
          a = { tmps := #[.agg #[.int .i64 N, .slice A n c], .int .i64 s, .pointer (some ⟨w.heap.size, 0, none⟩), undef, .pointer (some ⟨w.heap.size + 1, 0, none⟩), .pointer (some ⟨w.heap.size + 1 + 1, 0, none⟩), u6, .pointer (some ⟨xb, 0, none⟩), .int .i64 j, .bool (decide ((j : Int) < 24)), u10, u11, u12, u13,
            .agg #[.int .i64 N, .slice A n c], .int .i64 s, .func (.func 169) #[] #[.pointer (some ⟨wr.heap.size + 3, 0, none⟩), .pointer (some ⟨wr.heap.size + 2, 0, none⟩), .pointer (some ⟨wr.heap.size + 1, 0, none⟩)], .agg #[.int .i64 x.1, .int .i64 x.2], undef, undef, undef, undef, undef, undef], defers := [] })
        (fun i => i = w.heap.size + 2) ?hK0 ?hI (fun _ _ _ _ _ h _ => h) ?hM ?hlt ⟨fun i => Iff.rfl, hn0⟩ ?assign ?body ?done (fun _ _ _ _ _ _ _ h _ _ _ => h.elim)
      case e1 => rfl
      case e2 => exact enters_of Try.func169 (by kernel_rfl) rfl
      case e3 => exact fun x => rfl
      case hK0 =>
        rintro i rfl hi
        have hd := HE.out.lt
        rcases hi with h | h | h | ⟨hl, h⟩
        · omega
        · omega
        · omega
        · obtain ⟨g, off, rfl, hg, -⟩ := K1.out hl
          have : g = w.heap.size + 2 := by simpa [blockOf] using h
          omega
      case hI =>
        rintro pre K X Y ⟨hk, hnum⟩ ht
        exact ⟨hk, hnum.turn ht (fun h => h ((hk _).2 rfl))⟩
      case hM =>
        rintro pre x a K X Y ⟨xb, hk, hnum, ⟨hne, hc0, hc1⟩, he⟩ ht
        have hx := World.block_lt_of_cell? _ _ hc0
        have hs := fun o => (ht.cells hx (fun h => h ((hk _).2 (.inr rfl))) o).1
        exact ⟨xb, hk, hnum.turn ht (fun h => h ((hk _).2 (.inl rfl))), ⟨hne, (hs 0).trans hc0, (hs 1).trans hc1⟩, he⟩
      case hlt =>
        rintro pre K X ⟨hk, hnum⟩ i hi
        rw [(hk i).1 hi]
        exact hnum.lt
      case assign =>
        rintro l pre ⟨x, y⟩ K W R ⟨hk, hnum⟩ hpre hR
        have HK := Lib.hid hk
        have HNM := Lib.hid hnum
        have HR := Lib.hid hR
        clear hk hnum hpre hR hs3 hb3 hbw hin hn0
        dsimp only [encI]
        gi_wp2_with fail
        have hlt := HNM.out.lt
        refine HR.out _ (fun i => i = w.heap.size + 2 ∨ i = W.heap.size) _ ⟨Turn.of_bl (by repeat' (first | exact Bl.refl _ | with_reducible assumption | with_reducible refine Bl.drew_ ?_ | with_reducible refine Bl.drewN_ ?_ _ | with_reducible refine Bl.alloc_ ?_ _ | with_reducible refine Bl.trans_ ?_ (by assumption) | with_reducible refine Bl.trans_ ?_ (And.left (by assumption)))), fun i hi => hi.imp (fun h => (HK.out i).2 h) (fun h => by rw [h]; exact Nat.le_refl _)⟩ ⟨W.heap.size, fun i => Iff.rfl, HNM.out.bl (by repeat' (first | exact Bl.refl _ | with_reducible assumption | with_reducible refine Bl.drew_ ?_ | with_reducible refine Bl.drewN_ ?_ _ | with_reducible refine Bl.alloc_ ?_ _ | with_reducible refine Bl.trans_ ?_ (by assumption) | with_reducible refine Bl.trans_ ?_ (And.left (by assumption)))), ⟨by omega, by simp [go_sem], by simp [go_sem]⟩, rfl⟩
      case body =>
        rintro l pre ⟨x, y⟩ a₁ K W ⟨xb, hk, hnum, ⟨hne, hc0, hc1⟩, rfl⟩ ⟨Z, hZ⟩
        obtain ⟨f1, f2, f3, -, -⟩ := NextFacts (arcsIn_of_ok HO.out) hN24 hZ
        simp only at f1 f2 f3
        obtain ⟨u, rfl⟩ : ∃ u : Nat, y = u := ⟨y.toNat, by omega⟩
        have hu : u < 24 := by omega
        have hu0 : (0 : Int) ≤ (u : Int) := by omega
        have hu1 : (u : Int) < 24 := by omega
        have hkl := keysL_len 24 pre
        have q0 := hnum.cell u (by rw [hkl]; exact hu)
        have q1 := hnum.free u hu
        generalize (keysL 24 pre)[u]'(by rw [hkl]; exact hu) = ej at q0
        have hdl' := hnum.lt
        have HK := Lib.hid hk
        have HNM := Lib.hid hnum
        have F3 := Lib.hid f3
        clear hk hnum f1 f2 f3 hs3 hb3 hbw hin hn0 hZ hkl
        simp only at hc0 hc1
        gi_wp2_with fail
        refine ⟨fun i => i = w.heap.size + 2, ⟨Turn.set (p := ⟨w.heap.size + 2, u, none⟩) (Turn.refl K W) (.inl ((HK.out _).2 (.inl rfl))) _, fun i hi => .inl ((HK.out i).2 (.inl hi))⟩, fun i => Iff.rfl, ?_⟩
        have e : keysL 24 (pre ++ [(x, (u : Int))]) = (keysL 24 pre).set u x := keysL_snoc (x := (x, (u : Int))) F3.out hu0
        rw [e]
        exact HNM.out.set x
      case done =>
        rintro D xs K W hD hall ⟨hk, hnum⟩ hT hKD hdef
        have HK := Lib.hid hk
        have HNM := Lib.hid hnum
        have HT := Lib.hid hT
        have HA := Lib.hid hall
        have HD := Lib.hid hdef
        clear hk hnum hT hall hdef hs3 hb3 hbw hin hn0
        have hrb : W.there (w.heap.size + 1) 0 24 := by
          have hT2 := HT.out
          refine there_of_cells fun i hi => ?_
          have hbs' := HB.out.size
          simp only [World.size_alloc] at hbs'
          have hl3 : w.heap.size + 1 < w3.heap.size := by rw [HW3.out]; simp; omega
          obtain ⟨x1, x2⟩ := HT.out.cells hl3 (fun h => by omega) i
          obtain ⟨y1, y2⟩ := bcell HB.out
          have hl0 : w.heap.size + 1 < wr.heap.size := by omega
          have z1 : w3.cell? ⟨w.heap.size + 1, i, none⟩ = wr.cell? ⟨w.heap.size + 1, i, none⟩ := by rw [HW3.out]; exact (bcell (show Bl wr _ from (by repeat' (first | exact Bl.refl _ | with_reducible assumption | with_reducible refine Bl.drew_ ?_ | with_reducible refine Bl.drewN_ ?_ _ | with_reducible refine Bl.alloc_ ?_ _ | with_reducible refine Bl.trans_ ?_ (by assumption) | with_reducible refine Bl.trans_ ?_ (And.left (by assumption)))))).1 _ _ hl0
          have z2 : w3.frozen? ⟨w.heap.size + 1, i, none⟩ = wr.frozen? ⟨w.heap.size + 1, i, none⟩ := by rw [HW3.out]; exact (bcell (show Bl wr _ from (by repeat' (first | exact Bl.refl _ | with_reducible assumption | with_reducible refine Bl.drew_ ?_ | with_reducible refine Bl.drewN_ ?_ _ | with_reducible refine Bl.alloc_ ?_ _ | with_reducible refine Bl.trans_ ?_ (by assumption) | with_reducible refine Bl.trans_ ?_ (And.left (by assumption)))))).2 _ _ hl0
          rw [x1, x2, z1, z2, y1 _ _ (by simp), y2 _ _ (by simp)]
          match i, hi with
          | 0, _ | 1, _ | 2, _ | 3, _ | 4, _ | 5, _ | 6, _ | 7, _ | 8, _ | 9, _ | 10, _ | 11, _ | 12, _ | 13, _ | 14, _ | 15, _ | 16, _ | 17, _ | 18, _ | 19, _ | 20, _ | 21, _ | 22, _ | 23, _ => simp [go_sem]
          | (k + 24), h => exact absurd h (by omega)
        have HRB := Lib.hid hrb
        have hsz : (Try.prog.info? 98).map (·.size) = some 24 := by kernel_rfl
        have HSZ := Lib.hid hsz
        clear hrb hsz
        gi_wp2_with (first | (refine wpListIn_load_mid rfl 98 (.tmp 5) rfl (w.heap.size + 2) 0 rfl (csI (keysL 24 xs)) _ HNM.out.range Try.underlying98 rfl (by rw [csI_len, keysL_len]; exact HSZ.out) ?_) | (refine wpListIn_store_mid rfl 98 (.tmp 4) (.tmp 23) rfl (w.heap.size + 1) 0 (csI (keysL 24 xs)).toArray rfl rfl ?c1 ?c2 (csI_one _) ?_))
        case c1 => simpa [csI_len, keysL_len] using HRB.out
        case c2 => simpa [csI_len, keysL_len] using HSZ.out
        have hl3 : w.heap.size + 1 < w3.heap.size := by
          have := HB.out.size
          rw [HW3.out]
          simp only [World.size_alloc] at this ⊢
          omega
        have hDl : D < W.heap.size := (Array.getElem?_eq_some_iff.1 HD.out).1
        have hts : Turn (fun i => i = w.heap.size + 1) W (W.setCells (w.heap.size + 1) 0 (csI (keysL 24 xs))) := Turn.setCells_ (S := fun i => i = w.heap.size + 1) (w.heap.size + 1) rfl _ _ _ (Turn.refl _ _)
        have hD2 := (hts.block D hDl (by omega)).trans HD.out
        have hnums := NumsAt.stored (keysL_len 24 xs) (Nat.lt_of_lt_of_le hl3 HT.out.size) HRB.out
        have hnums2 := hnums.turn (turn_put (fun i => i = D) _ (.deferred none) rfl) (show ¬ (w.heap.size + 1 = D) by omega)
        refine ⟨by simp, .inl ⟨_, _, rfl, run_takeDeferred hD2, ?_⟩⟩
        refine ⟨_, results_cell_mid rfl _ _ (w.heap.size + 1) (csI (keysL 24 xs)) _ rfl hnums2.range Try.underlying98 rfl (by rw [csI_len, keysL_len]; exact HSZ.out), ?_⟩
        refine ⟨keysL 24 xs, rfl, keysL_len _ _, ?_, ?_⟩
        · rw [keysL_take (by omega)]
          exact HA.out.keys (arcsIn_of_ok HO.out) hN24
        · have hb3 : Bl w w3 := by
            rw [HW3.out]
            exact ((((Bl.refl w).alloc_ _).alloc_ _).trans_ HB.out).trans_ (((((Bl.refl wr).alloc_ _).alloc_ _).alloc_ _).alloc_ _)
          have hbW : Bl w W := Turn.to_bl hb3 HT.out (fun i hi => by rw [hi]; omega)
          have h4 := Bl.setCells_ (w.heap.size + 1) (by omega) (csI (keysL 24 xs)) 0 W hbW
          exact Turn.to_bl h4 (turn_put (fun i => i = D) _ (.deferred none) rfl) (fun i hi => by rw [hi]; omega)

end Go.Proofs.Ytelgjfflhcmljaa
