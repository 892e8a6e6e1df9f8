/-
  What is proved here: how many nodes are reached from one, and how far the farthest is, as the code reckons it. No conditions beyond those that each theorem states.
-/
import Derived.Test.YtoffkpkpdnjlnaaNF4
import Derived.Test.YtoffkpkpdnjlnaaPO
set_option linter.unusedSimpArgs false
set_option linter.unusedVariables false
namespace Go.Proofs.Ytoffkpkpdnjlnaa
open Go.RowKit Go.Shelf
attribute [local go_sem] Oper.semAt_some

/-- Two numbers lie at the front of a block, and may be written. -/
structure PairAt (w : World) (b : Nat) (x y : Int) : Prop where
  lt : b < w.heap.size
  c0 : w.cell? ⟨b, 0, none⟩ = some (.int .i64 x)
  c1 : w.cell? ⟨b, 1, none⟩ = some (.int .i64 y)
  f0 : w.frozen? ⟨b, 0, none⟩ = false
  f1 : w.frozen? ⟨b, 1, none⟩ = false
theorem PairAt.turn {w w' : World} {b : Nat} {x y : Int} (h : PairAt w b x y) {S : Nat → Prop} (t : Turn S w w') (hS : ¬ S b) : PairAt w' b x y :=
  ⟨Nat.lt_of_lt_of_le h.lt t.size, (t.cells h.lt hS 0).1.trans h.c0, (t.cells h.lt hS 1).1.trans h.c1, (t.cells h.lt hS 0).2.trans h.f0, (t.cells h.lt hS 1).2.trans h.f1⟩
theorem PairAt.bl {w w' : World} {b : Nat} {x y : Int} (h : PairAt w b x y) (t : Bl w w') : PairAt w' b x y := h.turn (Turn.of_bl (S := fun _ => False) t) id
theorem PairAt.set0 {w : World} {b : Nat} {x y : Int} (h : PairAt w b x y) (z : Int) : PairAt (w.setCell ⟨b, 0, none⟩ (.int .i64 z)) b z y := by
  have h1 := h.lt
  have h2 := h.c0
  have h3 := h.c1
  have h4 := h.f0
  have h5 := h.f1
  refine ⟨by simpa using h1, ?_, ?_, ?_, ?_⟩ <;> simp [go_sem, *]
theorem PairAt.set1 {w : World} {b : Nat} {x y : Int} (h : PairAt w b x y) (z : Int) : PairAt (w.setCell ⟨b, 1, none⟩ (.int .i64 z)) b x z := by
  have h1 := h.lt
  have h2 := h.c0
  have h3 := h.c1
  have h4 := h.f0
  have h5 := h.f1
  refine ⟨by simpa using h1, ?_, ?_, ?_, ?_⟩ <;> simp [go_sem, *]
theorem PairAt.range {w : World} {b : Nat} {x y : Int} (h : PairAt w b x y) : w.rangeAt b 0 (csI [x, y]) := fun j v hv => by
  match j, hv with
  | 0, hv => simp [csI] at hv; subst hv; exact h.c0
  | 1, hv => simp [csI] at hv; subst hv; exact h.c1
  | (k + 2), hv => simp [csI] at hv
/-- What is told is told of nodes, one by one. -/
theorem told_len {N s : Int} {L : List Arc3} {Y Z : List It} (hL : ArcsIn N L) (hN : N ≤ 24) (h : AllNear N L s (Y ++ Z)) : Y.length ≤ 24 := by
  have h1 := h.count hL hN
  have h2 := cntD_le (distL N L s)
  have h3 := h.dlen hL hN
  rw [List.length_append] at h1
  omega

set_option maxRecDepth 100000 in
set_option maxHeartbeats 4000000 in
theorem outlook_any (N s : Int) (A : Option Addr) (n c : Nat) (L : List Arc3) (hn : n = L.length) (hc : n ≤ c) (ho : okB N L = true) (h0 : 0 ≤ s) (h1 : s < N) (w : World) (H1 : ArcsAt w w.heap.size A L) :
    Calls Try.prog 100 #[.agg #[.int .i64 N, .slice A n c], .int .i64 s] w fun e w' => e = .returned (.agg #[.int .i64 (cntD (distL N L s) : Nat), .int .i64 (maxD (distL N L s))]) ∧ Bl w w' := by
  have K1 := Lib.hid H1
  have HN := Lib.hid hn
  have HO := Lib.hid ho
  clear H1 hn ho
  refine (callsIn_wide (n := 0)).1 ?_
  refine callsIn_of_wp_marks Try.func100 rfl trivial ?_ rfl
  simp only [Try.ntmps100, List.size_toArray, List.length_cons, List.length_nil, Nat.reduceAdd, Nat.reduceSub, Array.replicate_succ, Array.replicate_zero, List.push_toArray, List.append_toArray, List.nil_append, List.cons_append]
  gi_wp2_with fail
  have hN24 := (okB_elim HO.out).2.1
  refine ⟨trivial, rfl, CallsIn.mono (callsIn_wide.2 (nearestFrom_any N s A n c _)) ?_⟩
  rintro e w3 ⟨rfl, hw3⟩
  have HW3 := Lib.hid hw3
  clear hw3
  gi_wp2_with fail
  have hs3 : w3.heap.size = w.heap.size + 7 := by rw [HW3.out]; simp
  have hbw : Bl w w3 := by rw [HW3.out]; exact (by repeat' (first | exact Bl.refl _ | with_reducible assumption | with_reducible refine Bl.drew_ ?_ | with_reducible refine Bl.drewN_ ?_ _ | with_reducible refine Bl.alloc_ ?_ _ | with_reducible refine Bl.trans_ ?_ (by assumption) | with_reducible refine Bl.trans_ ?_ (And.left (by assumption))))
  have hin : NIn w3 (w.heap.size + 6) (w.heap.size + 5) (w.heap.size + 4) N s A n c L := by
    refine ⟨?_, ?_, ?_, ?_, K1.out.bl hbw⟩ <;> (rw [HW3.out]; simp [go_sem])
  have hp0 : PairAt w3 (w.heap.size + 2) ((([] : List It).length : Nat) : Int) (lastK []) := by
    rw [HW3.out]
    refine ⟨?_, ?_, ?_, ?_, ?_⟩ <;> simp [go_sem, lastK]
  have HP0 := Lib.hid hp0
  refine wpIn_range (gf := 133) (lb := #[.pointer (some ⟨w.heap.size + 6, 0, none⟩), .pointer (some ⟨w.heap.size + 5, 0, none⟩), .pointer (some ⟨w.heap.size + 4, 0, none⟩)]) ?e1 ?e2
    (near_stops N s A n c (w.heap.size + 6) (w.heap.size + 5) (w.heap.size + 4) L HN.out hc HO.out h0 h1 w3 hin) (Bl.refl _) (fun i hi => inBlocks_lt hin hi) ?e3
    (fun pre K W' => (∀ i, K i ↔ i = w.heap.size + 2) ∧ PairAt W' (w.heap.size + 2) ((pre.length : Nat) : Int) (lastK pre))
    (fun _ _ _ _ => False)
    (fun pre x a K W' => ∃ xb : Nat, ∃ z0 z1 z2 z3 z4 z7 z8 z9 z10 z11 z12 z13 z14 z15 z16 z17 z18 : Value, (∀ i, K i ↔ (i = w.heap.size + 2 ∨ i = xb)) ∧ PairAt W' (w.heap.size + 2) ((pre.length : Nat) : Int) (lastK pre) ∧ (xb ≠ w.heap.size + 2 ∧ W'.cell? ⟨xb, 0, none⟩ = some (.int .i64 x.1) ∧ W'.cell? ⟨xb, 1, none⟩ = some (.int .i64 x.2)) ∧
      a = { tmps := #[z0, z1, z2, z3, z4, .pointer (some ⟨w.heap.size + 1 + 1, 0, none⟩), .pointer (some ⟨xb, 0, none⟩), z7, z8, z9, z10, z11, z12, z13, z14, z15, z16, z17, z18], defers := [] })
    (fun i => i = w.heap.size + 2) ?hK0 ?hI (fun _ _ _ _ _ h _ => h) ?hM ?hlt ⟨fun i => Iff.rfl, hp0⟩ ?assign ?body ?done (fun _ _ _ _ _ _ _ h _ _ _ => h.elim)
  case e1 => rfl
  case e2 => exact enters_of Try.func133 (by kernel_rfl) rfl
  case e3 => exact fun x => rfl
  case hK0 =>
    rintro i rfl hi
    rcases hi with h | h | h | ⟨hl, h⟩
    · omega
    · omega
    · omega
    · obtain ⟨g, off, rfl, hg, -⟩ := K1.out hl
      have : g = w.heap.size + 2 := by simpa [blockOf] using h
      omega
  case hI =>
    rintro pre K X Y ⟨hk, hnum⟩ ht
    exact ⟨hk, hnum.turn ht (fun h => h ((hk _).2 rfl))⟩
  case hM =>
    rintro pre x a K X Y ⟨xb, z0, z1, z2, z3, z4, z7, z8, z9, z10, z11, z12, z13, z14, z15, z16, z17, z18, hk, hnum, ⟨hne, hc0, hc1⟩, he⟩ ht
    have hx := World.block_lt_of_cell? _ _ hc0
    have hs := fun o => (ht.cells hx (fun h => h ((hk _).2 (.inr rfl))) o).1
    exact ⟨xb, z0, z1, z2, z3, z4, z7, z8, z9, z10, z11, z12, z13, z14, z15, z16, z17, z18, hk, hnum.turn ht (fun h => h ((hk _).2 (.inl rfl))), ⟨hne, (hs 0).trans hc0, (hs 1).trans hc1⟩, he⟩
  case hlt =>
    rintro pre K X ⟨hk, hnum⟩ i hi
    rw [(hk i).1 hi]
    exact hnum.lt
  case assign =>
    rintro l pre ⟨x, y⟩ K W R ⟨hk, hnum⟩ hpre hR
    have HK := Lib.hid hk
    have HNM := Lib.hid hnum
    have HR := Lib.hid hR
    clear hk hnum hpre hR hs3 hbw hin hp0
    dsimp only [encI]
    gi_wp2_with fail
    have hlt := HNM.out.lt
    refine HR.out _ (fun i => i = w.heap.size + 2 ∨ i = W.heap.size) _ ⟨Turn.of_bl (by repeat' (first | exact Bl.refl _ | with_reducible assumption | with_reducible refine Bl.drew_ ?_ | with_reducible refine Bl.drewN_ ?_ _ | with_reducible refine Bl.alloc_ ?_ _ | with_reducible refine Bl.trans_ ?_ (by assumption) | with_reducible refine Bl.trans_ ?_ (And.left (by assumption)))), fun i hi => hi.imp (fun h => (HK.out i).2 h) (fun h => by rw [h]; exact Nat.le_refl _)⟩ ⟨W.heap.size, _, _, _, _, _, _, _, _, _, _, _, _, _, _, _, _, _, fun i => Iff.rfl, HNM.out.bl (by repeat' (first | exact Bl.refl _ | with_reducible assumption | with_reducible refine Bl.drew_ ?_ | with_reducible refine Bl.drewN_ ?_ _ | with_reducible refine Bl.alloc_ ?_ _ | with_reducible refine Bl.trans_ ?_ (by assumption) | with_reducible refine Bl.trans_ ?_ (And.left (by assumption)))), ⟨by omega, by simp [go_sem], by simp [go_sem]⟩, rfl⟩
  case body =>
    rintro l pre ⟨x, y⟩ a₁ K W ⟨xb, z0, z1, z2, z3, z4, z7, z8, z9, z10, z11, z12, z13, z14, z15, z16, z17, z18, hk, hnum, ⟨hne, hc0, hc1⟩, rfl⟩ ⟨Z, hZ⟩
    have hpl := told_len (Z := (x, y) :: Z) (arcsIn_of_ok HO.out) hN24 hZ
    have r0 := hnum.c0
    have r1 := hnum.c1
    have r2 := hnum.f0
    have r3 := hnum.f1
    have hdl := hnum.lt
    have HK := Lib.hid hk
    have HNM := Lib.hid hnum
    have e1 : ((pre ++ [(x, y)]).length : Nat) = pre.length + 1 := by simp
    have e2 : lastK (pre ++ [(x, y)]) = x := lastK_snoc _ _
    have E1 := Lib.hid e1
    have E2 := Lib.hid e2
    obtain ⟨m, hm⟩ : ∃ m, m = pre.length := ⟨_, rfl⟩
    have HM := Lib.hid hm
    rw [← hm] at r0 hpl
    generalize lastK pre = lk at r1
    clear hk hnum hs3 hbw hin hp0 hZ e1 e2 hm
    simp only at hc0 hc1
    have hne' : w.heap.size + 2 ≠ xb := fun h => hne h.symm
    gi_wp2_with fail
    refine ⟨fun i => i = w.heap.size + 2, ⟨Turn.set (p := ⟨w.heap.size + 2, 1, none⟩) (Turn.set (p := ⟨w.heap.size + 2, 0, none⟩) (Turn.refl K W) (.inl ((HK.out _).2 (.inl rfl))) _) (.inl ((HK.out _).2 (.inl rfl))) _, fun i hi => .inl ((HK.out i).2 (.inl hi))⟩, fun i => Iff.rfl, ?_⟩
    have h5 := (HNM.out.set0 ((m : Int) + 1)).set1 x
    rw [E1.out, E2.out, ← HM.out]
    exact h5
  case done =>
    rintro D xs K W hD hall ⟨hk, hnum⟩ hT hKD hdef
    have HK := Lib.hid hk
    have HNM := Lib.hid hnum
    have HT := Lib.hid hT
    have HA := Lib.hid hall
    have HD := Lib.hid hdef
    have S3 := Lib.hid hs3
    have BW := Lib.hid hbw
    clear hk hnum hT hall hdef hs3 hbw hin hp0
    have RB := Lib.hid ((show PairAt w3 (w.heap.size + 1) 0 0 from by rw [HW3.out]; refine ⟨?_, ?_, ?_, ?_, ?_⟩ <;> simp [go_sem]).turn HT.out (by omega))
    have EC := Lib.hid (HA.out.count (arcsIn_of_ok HO.out) hN24)
    have EM := Lib.hid (HA.out.last (arcsIn_of_ok HO.out) hN24)
    have r0 := HNM.out.c0
    have r1 := HNM.out.c1
    have r2 := RB.out.c0
    have r3 := RB.out.c1
    have r4 := RB.out.f0
    have r5 := RB.out.f1
    rw [EC.out] at r0
    rw [EM.out] at r1
    gi_wp2_with fail
    have hs3 := S3.out
    have PR := (RB.out.set0 ((cntD (distL N L s) : Nat) : Int)).set1 (maxD (distL N L s))
    have hDl : D < W.heap.size := (Array.getElem?_eq_some_iff.1 HD.out).1
    have hts : Turn (fun i => i = w.heap.size + 1) W ((W.setCell ⟨w.heap.size + 1, 0, none⟩ (.int .i64 ((cntD (distL N L s) : Nat) : Int))).setCell ⟨w.heap.size + 1, 1, none⟩ (.int .i64 (maxD (distL N L s)))) := Turn.set (p := ⟨w.heap.size + 1, 1, none⟩) (Turn.set (S := fun i => i = w.heap.size + 1) (p := ⟨w.heap.size + 1, 0, none⟩) (Turn.refl _ _) (.inl rfl) _) (.inl rfl) _
    have hD2 := (hts.block D hDl (by omega)).trans HD.out
    have hnums2 := PR.turn (turn_put (fun i => i = D) _ (.deferred none) rfl) (show ¬ (w.heap.size + 1 = D) by omega)
    refine ⟨by simp, .inl ⟨_, _, rfl, run_takeDeferred hD2, ?_⟩⟩
    refine ⟨_, results_cell_mid rfl _ _ (w.heap.size + 1) (csI [((cntD (distL N L s) : Nat) : Int), maxD (distL N L s)]) _ rfl hnums2.range Try.underlying121 rfl (by kernel_rfl), ?_⟩
    refine ⟨rfl, ?_⟩
    have hbW : Bl w W := Turn.to_bl BW.out HT.out (fun i hi => by rw [hi]; omega)
    have h4 : Bl w _ := Turn.to_bl hbW hts (fun i hi => by rw [hi]; omega)
    exact Turn.to_bl h4 (turn_put (fun i => i = D) _ (.deferred none) rfl) (fun i hi => by rw [hi]; omega)

set_option maxHeartbeats 1000000 in
theorem betterThan_any (a1 a2 b1 b2 : Int) (w : World) :
    Calls Try.prog 101 #[.agg #[.int .i64 a1, .int .i64 a2], .agg #[.int .i64 b1, .int .i64 b2]] w fun e w' => e = .returned (.bool (betterB (a1, a2) (b1, b2))) ∧ Bl w w' := by
  by_cases h1 : a1 = b1
  · have d1 : (a1 != b1) = false := by simpa using h1
    go_enter Try.func101, Try.ntmps101
    go_wp2
    go_ret
    exact ⟨ret_bool (by unfold betterB; simp [h1]), (by repeat' (first | exact Bl.refl _ | with_reducible assumption | with_reducible refine Bl.drew_ ?_ | with_reducible refine Bl.drewN_ ?_ _ | with_reducible refine Bl.alloc_ ?_ _ | with_reducible refine Bl.trans_ ?_ (by assumption) | with_reducible refine Bl.trans_ ?_ (And.left (by assumption))))⟩
  · have d1 : (a1 != b1) = true := by simpa using h1
    go_enter Try.func101, Try.ntmps101
    go_wp2
    go_ret
    exact ⟨ret_bool (by unfold betterB; simp [h1]), (by repeat' (first | exact Bl.refl _ | with_reducible assumption | with_reducible refine Bl.drew_ ?_ | with_reducible refine Bl.drewN_ ?_ _ | with_reducible refine Bl.alloc_ ?_ _ | with_reducible refine Bl.trans_ ?_ (by assumption) | with_reducible refine Bl.trans_ ?_ (And.left (by assumption))))⟩

end Go.Proofs.Ytoffkpkpdnjlnaa
