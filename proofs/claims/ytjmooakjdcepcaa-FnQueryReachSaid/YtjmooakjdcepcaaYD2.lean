/-
  What is proved here: the code's ReachOf. No conditions beyond those that each theorem states.
-/
import Derived.Test.YtjmooakjdcepcaaYSP
import Derived.Test.YtjmooakjdcepcaaYD1
import Derived.Test.YtjmooakjdcepcaaYD3
import Derived.Lib.MinMax
set_option linter.unusedSimpArgs false
set_option linter.unusedVariables false
namespace Go.Proofs.Ytjmooakjdcepcaa
open Go.RowKit Go.Shelf
attribute [local go_sem] Oper.semAt_some

set_option maxHeartbeats 400000 in
theorem lesser_any (x y z : Int) (w : World) :
    Calls Try.prog 74 #[.agg #[.int .i64 x, .int .i64 y, .int .i64 z]] w fun e w' => e = .returned (.int .i64 (min y z)) ∧ Bl w w' := by
  go_enter Try.func74, Try.ntmps74
  go_wp2
  go_ret
  exact ⟨rfl, (by repeat' (first | exact Bl.refl _ | with_reducible assumption | with_reducible refine Bl.drew_ ?_ | with_reducible refine Bl.drewN_ ?_ _ | with_reducible refine Bl.alloc_ ?_ _ | with_reducible refine Bl.trans_ ?_ (by assumption) | with_reducible refine Bl.trans_ ?_ (And.left (by assumption))))⟩

theorem OwnN.put_ {w : World} {B g n c : Nat} {V : List Int} (h : OwnN w B (.slice (some ⟨g, 0, none⟩) n c) V) (hn : n = V.length) (d : Nat) (x : Int) : OwnN (w.setCell ⟨g, d, none⟩ (.int .i64 x)) B (.slice (some ⟨g, 0, none⟩) n c) (V.set d x) := by
  subst hn
  have h1 := (Owns.stored (show Owns 2 1 w B (.slice (some ⟨g, 0, none⟩) V.length c) V.length (csI V) from h) d (.int .i64 x)).1
  have e : (csI V).set d (.int .i64 x) = csI (V.set d x) := by simp [csI, List.map_set]
  rw [e] at h1
  unfold OwnN
  rw [List.length_set]
  exact h1
theorem OwnN.turn_ {w w' : World} {B : Nat} {v : Value} {V : List Int} {S : Nat → Prop} (h : OwnN w B v V) (k : Turn S w w') (hS : ∀ g, v.ownBlock = some g → ¬ S g) : OwnN w' B v V := Owns.turn h k hS
theorem OwnN.cell_ {w : World} {B g n c : Nat} {V : List Int} (h : OwnN w B (.slice (some ⟨g, 0, none⟩) n c) V) (hn : n = V.length) {d : Nat} (hd : d < V.length) : w.cell? ⟨g, d, none⟩ = some (.int .i64 V[d]) ∧ w.frozen? ⟨g, d, none⟩ = false ∧ g < w.heap.size := by
  subst hn
  have h' : w.ownsRow B 2 1 (.slice (some ⟨g, 0, none⟩) V.length c) V.length (csI V) := h
  refine ⟨?_, World.ownsRow.frozenAt h' d, (Owns.lt h g rfl).2⟩
  rw [World.ownsRow.cellAt h' d (by rw [Nat.mul_one]; exact hd), List.getElem?_eq_getElem (by rw [csI_len]; exact hd), csI_at]

theorem mk1_list (n : Nat) : mk1 n = (csI (List.replicate n 0)).toArray := by
  refine Array.ext (by simp [size_mk1, csI_len]) fun i h1 h2 => ?_
  unfold mk1
  simp [csI, madeCells, Nat.mod_one]
theorem own_zeros (w : World) (B n : Nat) (hB : B ≤ w.heap.size) (hn : n ≤ 1048576) : OwnN (w.alloc (.cells (mk1 n) 2)) B (.slice (some ⟨w.heap.size, 0, none⟩) n n) (List.replicate n 0) := by
  have hl : (mk1 n).size = n * 1 := by rw [size_mk1, Nat.mul_one]
  refine ⟨by simp [csI_len], .inr ⟨w.heap.size, n, mk1 n, by simp, hB, ?_, by simp, by unfold maxLen; omega, hl, ?_⟩⟩
  · exact World.alloc_heap_new w _
  · rw [mk1_list]
    simp [csI_len, List.take_of_length_le]

set_option maxHeartbeats 400000 in
theorem shortest_any (N : Int) (A : Option Addr) (n c : Nat) (w : World) :
    Calls Try.prog 73 #[.agg #[.int .i64 N, .slice A n c]] w fun e w' => e = .returned (.func (.func 94) #[] #[.pointer (some ⟨w.heap.size, 0, none⟩)]) ∧ w' = w.alloc (.cells #[.int .i64 N, .slice A n c] 26) := by
  go_enter Try.func73, Try.ntmps73
  go_wp2
  go_ret
  exact ⟨rfl, rfl⟩

set_option maxRecDepth 100000 in
set_option maxHeartbeats 4000000 in
theorem implReachOf_any (N : Int) (A : Option Addr) (n c : Nat) (L : List Arc3) (hn : n = L.length) (hc : n ≤ c) (w : World) (hm : n ≤ 1048576) (H1 : ArcsAt w w.heap.size A L) :
    Calls Try.prog 40 #[.agg #[.int .i64 N, .slice A n c]] w (NumsMade (reachL N L) w) := by
  have K1 := Lib.hid H1
  have HN := Lib.hid hn
  clear H1 hn
  cases ho : okB N L with
  | false =>
    have HO := Lib.hid ho
    clear ho
    refine (callsIn_wide (n := 0)).1 ?_
    refine callsIn_of_wp_marks Try.func40 rfl trivial ?_ rfl
    simp only [Try.ntmps40, List.size_toArray, List.length_cons, List.length_nil, Nat.reduceAdd, Nat.reduceSub, Array.replicate_succ, Array.replicate_zero, List.push_toArray, List.append_toArray, List.nil_append, List.cons_append]
    gi_wp2_with fail
    refine ⟨trivial, rfl, CallsIn.mono (callsIn_wide.2 (implOk_any N A n c L HN.out _ (by omega) (K1.out.bl (by repeat' (first | exact Bl.refl _ | with_reducible assumption | with_reducible refine Bl.drew_ ?_ | with_reducible refine Bl.drewN_ ?_ _ | with_reducible refine Bl.alloc_ ?_ _ | with_reducible refine Bl.trans_ ?_ (by assumption) | with_reducible refine Bl.trans_ ?_ (And.left (by assumption))))))) ?_⟩
    rintro e w1 ⟨rfl, hb1⟩
    rw [HO.out]
    gi_wp2_with fail
    refine leaves_marks [] [] _ (MarksD.nil_ _) fun w' t' => ?_
    refine ⟨_, by simp [results, Try.results40, go_sem]; rfl, ?_⟩
    refine ⟨_, rfl, by unfold reachL; rw [HO.out, if_neg (by simp)]; exact OwnN.nil_ _ _, Turn.to_bl ((Bl.alloc_ (Bl.refl w) _).trans_ hb1) t' (fun i hi => by simp at hi)⟩
  | true =>
    have HO := Lib.hid ho
    have hN1 := (okB_elim ho).1
    have hN24 := (okB_elim ho).2.1
    clear ho
    obtain ⟨q, rfl⟩ : ∃ q : Nat, N = q := ⟨N.toNat, by omega⟩
    have hmk := make_nums q (by omega)
    refine (callsIn_wide (n := 0)).1 ?_
    refine callsIn_of_wp_marks Try.func40 rfl trivial ?_ rfl
    simp only [Try.ntmps40, List.size_toArray, List.length_cons, List.length_nil, Nat.reduceAdd, Nat.reduceSub, Array.replicate_succ, Array.replicate_zero, List.push_toArray, List.append_toArray, List.nil_append, List.cons_append]
    gi_wp2_with fail
    refine ⟨trivial, rfl, CallsIn.mono (callsIn_wide.2 (implOk_any q A n c L HN.out _ (by omega) (K1.out.bl (by repeat' (first | exact Bl.refl _ | with_reducible assumption | with_reducible refine Bl.drew_ ?_ | with_reducible refine Bl.drewN_ ?_ _ | with_reducible refine Bl.alloc_ ?_ _ | with_reducible refine Bl.trans_ ?_ (by assumption) | with_reducible refine Bl.trans_ ?_ (And.left (by assumption))))))) ?_⟩
    rintro e w1 ⟨rfl, hb1⟩
    rw [HO.out]
    obtain ⟨q0, q1⟩ := box2 hb1
    have hsw : w.heap.size < w1.heap.size := by have := hb1.size; simp at this; omega
    have BW := Lib.hid (show Bl w w1 from (Bl.alloc_ (Bl.refl w) _).trans_ hb1)
    have OWN0 := Lib.hid (own_zeros w1 w.heap.size q BW.out.size (by omega))
    clear hb1
    gi_wp2_with fail
    refine ⟨trivial, rfl, CallsIn.mono (callsIn_wide.2 (shortest_any q A n c _)) ?_⟩
    rintro e w6 ⟨rfl, hw6⟩
    have HW6 := Lib.hid hw6
    clear hw6 hmk
    gi_wp2_with fail
    have hs6 : w6.heap.size = w1.heap.size + 3 := by rw [HW6.out]; simp
    have BX : Bl (w1.alloc (.cells (mk1 q) 2)) w6 := by rw [HW6.out]; exact ((Bl.refl _).alloc_ _).alloc_ _
    have BW6 := Lib.hid (show Bl w w6 from (BW.out.alloc_ _).trans_ BX)
    have O6 : OwnN w6 w.heap.size (.slice (some ⟨w1.heap.size, 0, none⟩) q q) (reachS q []) := by rw [reachS_nil]; exact OWN0.out.bl BX
    have V6 : w6.cell? ⟨w1.heap.size + 1, 0, none⟩ = some (.slice (some ⟨w1.heap.size, 0, none⟩) q q) := by rw [HW6.out]; simp [go_sem]
    have hin : SIn w6 (w1.heap.size + 2) q A n c L := by
      refine ⟨?_, ?_, K1.out.bl BW6.out⟩ <;> (rw [HW6.out]; simp [go_sem])
    clear BX q0 q1 OWN0
    refine wpIn_range (gf := 94) (lb := #[.pointer (some ⟨w1.heap.size + 2, 0, none⟩)]) ?e1 ?e2
      (short_stops q A n c (w1.heap.size + 2) L HN.out hc hm HO.out w6 hin) (Bl.refl _) (fun i hi => sBlocks_lt hin hi) ?e3
      (fun pre K W' => (∀ i, K i ↔ (i = w1.heap.size ∨ i = w1.heap.size + 1)) ∧ OwnN W' w.heap.size (.slice (some ⟨w1.heap.size, 0, none⟩) q q) (reachS q pre) ∧ W'.cell? ⟨w1.heap.size + 1, 0, none⟩ = some (.slice (some ⟨w1.heap.size, 0, none⟩) q q))
      (fun _ _ _ _ => False)
      (fun pre x a K W' => ∃ xb : Nat, ∃ z0 z1 z2 z5 z6 z7 z8 z9 z10 z11 z12 z13 z14 z15 z16 z17 z18 z19 z20 z21 z22 z23 z24 z25 z26 : Value, (∀ i, K i ↔ (i = w1.heap.size ∨ i = w1.heap.size + 1 ∨ i = xb)) ∧ OwnN W' w.heap.size (.slice (some ⟨w1.heap.size, 0, none⟩) q q) (reachS q pre) ∧ W'.cell? ⟨w1.heap.size + 1, 0, none⟩ = some (.slice (some ⟨w1.heap.size, 0, none⟩) q q) ∧
        ((xb ≠ w1.heap.size ∧ xb ≠ w1.heap.size + 1) ∧ W'.cell? ⟨xb, 0, none⟩ = some (.int .i64 x.1) ∧ W'.cell? ⟨xb, 1, none⟩ = some (.int .i64 x.2.1) ∧ W'.cell? ⟨xb, 2, none⟩ = some (.int .i64 x.2.2)) ∧ a = { tmps := #[z0, z1, z2, .pointer (some ⟨w1.heap.size + 1, 0, none⟩), .pointer (some ⟨xb, 0, none⟩), z5, z6, z7, z8, z9, z10, z11, z12, z13, z14, z15, z16, z17, z18, z19, z20, z21, z22, z23, z24, z25, z26], defers := [] })
      (fun i => i = w1.heap.size ∨ i = w1.heap.size + 1) ?hK0 ?hI (fun _ _ _ _ _ h _ => h) ?hM ?hlt ⟨fun i => Iff.rfl, O6, V6⟩ ?assign ?body ?done (fun _ _ _ _ _ _ _ h _ _ _ => h.elim)
    case e1 => rfl
    case e2 => exact enters_of Try.func94 (by kernel_rfl) rfl
    case e3 => exact fun x => rfl
    case hK0 =>
      rintro i hi (h | ⟨hl, h⟩)
      · omega
      · obtain ⟨g, off, rfl, hg, -⟩ := K1.out hl
        have : g = i := by simpa [blockOf] using h
        omega
    case hI =>
      rintro pre K X Y ⟨hk, ho, hv⟩ ht
      exact ⟨hk, ho.turn_ ht (fun g hg h => h ((hk g).2 (.inl (by simpa [Value.ownBlock] using hg.symm)))), (ht.cells (World.block_lt_of_cell? _ _ hv) (fun h => h ((hk _).2 (.inr rfl))) 0).1.trans hv⟩
    case hM =>
      rintro pre x a K X Y ⟨xb, z0, z1, z2, z5, z6, z7, z8, z9, z10, z11, z12, z13, z14, z15, z16, z17, z18, z19, z20, z21, z22, z23, z24, z25, z26, hk, ho, hv, ⟨hne, c0, c1, c2⟩, he⟩ ht
      have hx := World.block_lt_of_cell? _ _ c0
      have hs := fun o => (ht.cells hx (fun h => h ((hk _).2 (.inr (.inr rfl)))) o).1
      exact ⟨xb, z0, z1, z2, z5, z6, z7, z8, z9, z10, z11, z12, z13, z14, z15, z16, z17, z18, z19, z20, z21, z22, z23, z24, z25, z26, hk, ho.turn_ ht (fun g hg h => h ((hk g).2 (.inl (by simpa [Value.ownBlock] using hg.symm)))), (ht.cells (World.block_lt_of_cell? _ _ hv) (fun h => h ((hk _).2 (.inr (.inl rfl)))) 0).1.trans hv, ⟨hne, (hs 0).trans c0, (hs 1).trans c1, (hs 2).trans c2⟩, he⟩
    case hlt =>
      rintro pre K X ⟨hk, ho, hv⟩ i hi
      rcases (hk i).1 hi with rfl | rfl
      · exact (Owns.lt ho _ rfl).2
      · exact World.block_lt_of_cell? _ _ hv
    case assign =>
      rintro l pre ⟨x, y, z⟩ K X R ⟨hk, ho, hv⟩ hpre hR
      have KK9 := Lib.hid hk
      have OO9 := Lib.hid ho
      have VV9 := Lib.hid hv
      have HR := Lib.hid hR
      clear hk ho hv hpre hR hs6 O6 V6 hin
      dsimp only [encP]
      gi_wp2_with fail
      have h1 := (Owns.lt OO9.out _ rfl).2
      have h2 := World.block_lt_of_cell? _ _ VV9.out
      simp only at h2
      have BN : Bl X (X.alloc (.cells #[.int .i64 x, .int .i64 y, .int .i64 z] 89)) := Bl.alloc_ (Bl.refl X) _
      refine HR.out _ (fun i => i = w1.heap.size ∨ i = w1.heap.size + 1 ∨ i = X.heap.size) _ ⟨Turn.of_bl BN, fun i hi => ?_⟩ ⟨X.heap.size, _, _, _, _, _, _, _, _, _, _, _, _, _, _, _, _, _, _, _, _, _, _, _, _, _, fun i => Iff.rfl, OO9.out.bl BN, ((bcell BN).1 _ _ h2).trans VV9.out, ⟨⟨by omega, by omega⟩, by simp [go_sem], by simp [go_sem], by simp [go_sem]⟩, rfl⟩
      rcases hi with h | h | h
      · exact .inl ((KK9.out i).2 (.inl h))
      · exact .inl ((KK9.out i).2 (.inr h))
      · exact .inr (Nat.le_of_eq h.symm)
    case body =>
      rintro l pre ⟨x, y, z⟩ a₁ K X ⟨xb, z0, z1, z2, z5, z6, z7, z8, z9, z10, z11, z12, z13, z14, z15, z16, z17, z18, z19, z20, z21, z22, z23, z24, z25, z26, hk, ho, hv, ⟨hne, c0, c1, c2⟩, rfl⟩ ⟨Z, hZ⟩
      have hmem : (x, y, z) ∈ allS (q : Int) L (q : Int).toNat := by rw [hZ]; simp
      obtain ⟨s9, t9, hs9, ht9, hp9⟩ := mem_allS.1 hmem
      obtain ⟨⟨p0, p1⟩, -⟩ := mem_passK.1 (mem_selST.1 hp9).1
      simp only at p0 p1 c0 c1 c2
      obtain ⟨u, rfl⟩ : ∃ u : Nat, x = u := ⟨x.toNat, by omega⟩
      have hu : u < q := by simpa using p1
      have hu0 : (0 : Int) ≤ (u : Int) := by omega
      have hu1 : (u : Int) < (q : Int) := by omega
      have hrl := reachS_len q pre
      obtain ⟨d0, d1, d2⟩ := ho.cell_ hrl.symm (d := u) (by rw [hrl]; exact hu)
      have SN := Lib.hid (show reachS q (pre ++ [((u : Int), y, z)]) = (reachS q pre).set u (max ((reachS q pre)[u]'(by rw [hrl]; exact hu)) (min y z)) from by
        rw [reachS_snoc]
        simp [lessP, hrl, hu])
      generalize (reachS q pre)[u]'(by rw [hrl]; exact hu) = r at d0 SN
      have HRL := Lib.hid hrl
      have hxl := World.block_lt_of_cell? _ _ c0
      have hvl := World.block_lt_of_cell? _ _ hv
      simp only at hxl hvl
      have HSH := Lib.hid (show ∀ wx, Bl X wx → wx.cell? ⟨w1.heap.size + 1, 0, none⟩ = some (.slice (some ⟨w1.heap.size, 0, none⟩) q q) ∧ wx.cell? ⟨xb, 0, none⟩ = some (.int .i64 (u : Int)) ∧ wx.cell? ⟨xb, 1, none⟩ = some (.int .i64 y) ∧ wx.cell? ⟨xb, 2, none⟩ = some (.int .i64 z) ∧ wx.cell? ⟨w1.heap.size, u, none⟩ = some (.int .i64 r) from fun wx hb => by
        have h := (bcell hb).1
        exact ⟨(h _ _ hvl).trans hv, (h _ _ hxl).trans c0, (h _ _ hxl).trans c1, (h _ _ hxl).trans c2, (h _ _ d2).trans d0⟩)
      have KK9 := Lib.hid hk
      have OO9 := Lib.hid ho
      have VV9 := Lib.hid hv
      have FR9 := Lib.hid d1
      obtain ⟨hne1, hne2⟩ := hne
      clear hk ho hv hs6 O6 V6 hin hmem hs9 ht9 hp9 p0 p1 c0 c1 c2 d0 d1 hZ hrl
      gi_wp2_with fail
      refine wpIn_region_heldK (S := fun wx => wx.cell? ⟨w1.heap.size + 1, 0, none⟩ = some (.slice (some ⟨w1.heap.size, 0, none⟩) q q) ∧ wx.cell? ⟨xb, 0, none⟩ = some (.int .i64 (u : Int)) ∧ wx.cell? ⟨xb, 1, none⟩ = some (.int .i64 y) ∧ wx.cell? ⟨xb, 2, none⟩ = some (.int .i64 z) ∧ wx.cell? ⟨w1.heap.size, u, none⟩ = some (.int .i64 r)) 12 (by kernel_rfl) ?_ (fun hHeld => ?_)
      · (exact HSH.out _ (by repeat' (first | exact Bl.refl _ | with_reducible assumption | with_reducible refine Bl.drew_ ?_ | with_reducible refine Bl.drewN_ ?_ _ | with_reducible refine Bl.alloc_ ?_ _ | with_reducible refine Bl.trans_ ?_ (by assumption) | with_reducible refine Bl.trans_ ?_ (And.left (by assumption)))))
      refine wpAnyHK_take (i := 0) (v := ?_) (by kernel_rfl) (by kernel_rfl) rfl (by kernel_rfl) (by kernel_rfl) (by kernel_rfl) (fun _ _ _ h => h) (Or.inl ⟨by kernel_rfl, ?_⟩) (fun _ => rfl) (by assumption) ?_
      rotate_left
      · (intro wx hSw; (try dsimp only at hSw); go_simp; try (with_reducible rfl))
      try simp only [Act.put, List.getElem_toArray, List.getElem_cons_succ, List.getElem_cons_zero, List.setIfInBounds_toArray, List.set_cons_zero, List.set_cons_succ]
      refine wpAnyHK_take (i := 1) (v := ?_) (by kernel_rfl) (by kernel_rfl) rfl (by kernel_rfl) (by kernel_rfl) (by kernel_rfl) (fun _ _ _ h => h) (Or.inl ⟨by kernel_rfl, ?_⟩) (fun _ => rfl) (by assumption) ?_
      rotate_left
      · (intro wx hSw; (try dsimp only at hSw); go_simp; try (with_reducible rfl))
      try simp only [Act.put, List.getElem_toArray, List.getElem_cons_succ, List.getElem_cons_zero, List.setIfInBounds_toArray, List.set_cons_zero, List.set_cons_succ]
      refine wpAnyHK_take (i := 2) (v := ?_) (by kernel_rfl) (by kernel_rfl) rfl (by kernel_rfl) (by kernel_rfl) (by kernel_rfl) (fun _ _ _ h => h) (Or.inl ⟨by kernel_rfl, ?_⟩) (fun _ => rfl) (by assumption) ?_
      rotate_left
      · (intro wx hSw; (try dsimp only at hSw); go_simp; try (with_reducible rfl))
      try simp only [Act.put, List.getElem_toArray, List.getElem_cons_succ, List.getElem_cons_zero, List.setIfInBounds_toArray, List.set_cons_zero, List.set_cons_succ]
      refine wpAnyHK_take (i := 3) (v := ?_) (by kernel_rfl) (by kernel_rfl) rfl (by kernel_rfl) (by kernel_rfl) (by kernel_rfl) (fun _ _ _ h => h) (Or.inl ⟨by kernel_rfl, ?_⟩) (fun _ => rfl) (by assumption) ?_
      rotate_left
      · (intro wx hSw; (try dsimp only at hSw); go_simp; try (with_reducible rfl))
      try simp only [Act.put, List.getElem_toArray, List.getElem_cons_succ, List.getElem_cons_zero, List.setIfInBounds_toArray, List.set_cons_zero, List.set_cons_succ]
      refine wpAnyHK_take (i := 4) (v := ?_) (by kernel_rfl) (by kernel_rfl) rfl (by kernel_rfl) (by kernel_rfl) (by kernel_rfl) (fun _ _ _ h => h) (Or.inl ⟨by kernel_rfl, ?_⟩) (fun _ => rfl) (by assumption) ?_
      rotate_left
      · (intro wx hSw; (try dsimp only at hSw); go_simp; try (with_reducible rfl))
      try simp only [Act.put, List.getElem_toArray, List.getElem_cons_succ, List.getElem_cons_zero, List.setIfInBounds_toArray, List.set_cons_zero, List.set_cons_succ]
      refine wpAnyHK_take (i := 5) (v := ?_) (by kernel_rfl) (by kernel_rfl) rfl (by kernel_rfl) (by kernel_rfl) (by kernel_rfl) (fun _ _ _ h => h) (Or.inl ⟨by kernel_rfl, ?_⟩) (fun _ => rfl) (by assumption) ?_
      rotate_left
      · (intro wx hSw; (try dsimp only at hSw); go_simp; try (with_reducible rfl))
      try simp only [Act.put, List.getElem_toArray, List.getElem_cons_succ, List.getElem_cons_zero, List.setIfInBounds_toArray, List.set_cons_zero, List.set_cons_succ]
      refine wpAnyHK_take (i := 6) (v := ?_) (by kernel_rfl) (by kernel_rfl) rfl (by kernel_rfl) (by kernel_rfl) (by kernel_rfl) (fun _ _ _ h => h) (Or.inl ⟨by kernel_rfl, ?_⟩) (fun _ => rfl) (by assumption) ?_
      rotate_left
      · (intro wx hSw; (try dsimp only at hSw); go_simp; try (with_reducible rfl))
      try simp only [Act.put, List.getElem_toArray, List.getElem_cons_succ, List.getElem_cons_zero, List.setIfInBounds_toArray, List.set_cons_zero, List.set_cons_succ]
      refine wpAnyHK_take (i := 7) (v := ?_) (by kernel_rfl) (by kernel_rfl) rfl (by kernel_rfl) (by kernel_rfl) (by kernel_rfl) (fun _ _ _ h => h) (Or.inl ⟨by kernel_rfl, ?_⟩) (fun _ => rfl) (by assumption) ?_
      rotate_left
      · (intro wx hSw; (try dsimp only at hSw); go_simp; try (with_reducible rfl))
      try simp only [Act.put, List.getElem_toArray, List.getElem_cons_succ, List.getElem_cons_zero, List.setIfInBounds_toArray, List.set_cons_zero, List.set_cons_succ]
      refine wpAnyHK_take (i := 8) (v := ?_) (by kernel_rfl) (by kernel_rfl) rfl (by kernel_rfl) (by kernel_rfl) (by kernel_rfl) (fun _ _ _ h => h) (Or.inl ⟨by kernel_rfl, ?_⟩) (fun _ => rfl) (by assumption) ?_
      rotate_left
      · (intro wx hSw; (try dsimp only at hSw); go_simp; try (with_reducible rfl))
      try simp only [Act.put, List.getElem_toArray, List.getElem_cons_succ, List.getElem_cons_zero, List.setIfInBounds_toArray, List.set_cons_zero, List.set_cons_succ]
      refine wpAnyHK_ready (rs := [9]) (by kernel_rfl) (by simp) ?_
      refine AllReadyHK.cons rfl (fun K hK => ?_) AllReadyHK.nil
      go_simp
      (refine ⟨by first | trivial | exact fun _ _ => trivial, by first | rfl | (intro h; simp [Fence.wide] at h), CallsIn.inRound _ (CallsIn.mono (callsIn_wide.2 (lesser_any _ _ _ _)) ?_)⟩; rintro e w7 ⟨rfl, hb7⟩; have c7 := (HSH.out w7 (Bl.trans_ ((Bl.refl X).drew_) hb7)).2.2.2.2; have f7 : w7.frozen? ⟨w1.heap.size, u, none⟩ = false := (((bcell (Bl.trans_ ((Bl.refl X).drew_) hb7)).2 _ _ d2).trans FR9.out))
      try (gi_wp2_with fail)
      refine hK.out _ _ ?_ (fun hHeld => ?_)
      · (exact HSH.out _ (by repeat' (first | exact Bl.refl _ | with_reducible assumption | with_reducible refine Bl.drew_ ?_ | with_reducible refine Bl.drewN_ ?_ _ | with_reducible refine Bl.alloc_ ?_ _ | with_reducible refine Bl.trans_ ?_ (by assumption) | with_reducible refine Bl.trans_ ?_ (And.left (by assumption)))))
      clear hK K
      try simp only [Act.put, List.getElem_toArray, List.getElem_cons_succ, List.getElem_cons_zero, List.setIfInBounds_toArray, List.set_cons_zero, List.set_cons_succ]
      refine wpAnyHK_ready (rs := [10]) (by kernel_rfl) (by simp) ?_
      refine AllReadyHK.cons rfl (fun K hK => ?_) AllReadyHK.nil
      go_simp
      refine hK.out _ _ ?_ (fun hHeld => ?_)
      · (exact HSH.out _ (by repeat' (first | exact Bl.refl _ | with_reducible assumption | with_reducible refine Bl.drew_ ?_ | with_reducible refine Bl.drewN_ ?_ _ | with_reducible refine Bl.alloc_ ?_ _ | with_reducible refine Bl.trans_ ?_ (by assumption) | with_reducible refine Bl.trans_ ?_ (And.left (by assumption)))))
      clear hK K
      try simp only [Act.put, List.getElem_toArray, List.getElem_cons_succ, List.getElem_cons_zero, List.setIfInBounds_toArray, List.set_cons_zero, List.set_cons_succ]
      refine wpAnyHK_take (i := 11) (v := ?_) (by kernel_rfl) (by kernel_rfl) rfl (by kernel_rfl) (by kernel_rfl) (by kernel_rfl) (fun _ _ _ h => h) (Or.inl ⟨by kernel_rfl, ?_⟩) (fun _ => rfl) (by assumption) ?_
      rotate_left
      · (intro wx hSw; (try dsimp only at hSw); go_simp; try (with_reducible rfl))
      try simp only [Act.put, List.getElem_toArray, List.getElem_cons_succ, List.getElem_cons_zero, List.setIfInBounds_toArray, List.set_cons_zero, List.set_cons_succ]
      refine wpAnyHK_ready (rs := [12]) (by kernel_rfl) (by simp) ?_
      refine AllReadyHK.last rfl (fun K hK => ?_)
      go_simp
      refine hK.out _ _ ?_
      clear hK K
      try simp only [Act.put, List.getElem_toArray, List.getElem_cons_succ, List.getElem_cons_zero, List.setIfInBounds_toArray, List.set_cons_zero, List.set_cons_succ]
      refine wpAnyHK_done (by kernel_rfl) ?_ _
      have B7 := Lib.hid (show Bl X w7 from (by repeat' (first | exact Bl.refl _ | with_reducible assumption | with_reducible refine Bl.drew_ ?_ | with_reducible refine Bl.drewN_ ?_ _ | with_reducible refine Bl.alloc_ ?_ _ | with_reducible refine Bl.trans_ ?_ (by assumption) | with_reducible refine Bl.trans_ ?_ (And.left (by assumption)))))
      gi_wp2_with fail
      refine ⟨fun i => i = w1.heap.size ∨ i = w1.heap.size + 1, ⟨Turn.set (p := ⟨w1.heap.size, u, none⟩) (Turn.of_bl B7.out) (.inl ((KK9.out _).2 (.inl rfl))) _, fun i hi => .inl ((KK9.out i).2 (by rcases hi with h | h <;> simp [h]))⟩, fun i => Iff.rfl, ?_, ?_⟩
      · rw [SN.out]
        exact (OO9.out.bl B7.out).put_ HRL.out.symm u _
      · rw [World.cell?_setCell_other _ _ _ _ (by simp)]
        exact ((bcell B7.out).1 _ _ hvl).trans VV9.out
    case done =>
      rintro D xs K X hD hall ⟨hk, ho, hv⟩ hT hKD hdef
      have OO9 := Lib.hid ho
      have HT := Lib.hid hT
      have HD := Lib.hid hdef
      have HAL := Lib.hid (show reachS q xs = reachL q L from by unfold reachL; rw [if_pos HO.out]; unfold AllSP at hall; rw [hall]; simp)
      have HLL := Lib.hid (show q = (reachS q xs).length from (reachS_len q xs).symm)
      have hDs : w6.heap.size ≤ D := hD
      have hs6' := hs6
      clear ho hT hdef hk hall hKD hin O6 V6 hD hs6
      gi_wp2_with fail
      refine leaves_marks [D] _ _ ((MarksD.nil_ X).cons HD.out (by simp)) fun w' t' => ?_
      refine ⟨_, by simp [results, Try.results40, go_sem]; rfl, ?_⟩
      refine ⟨_, rfl, ?_, ?_⟩
      · rw [← HAL.out]
        exact OO9.out.turn_ t' (fun g hg h => by
          have e1 : w1.heap.size = g := by simpa [Value.ownBlock] using hg
          have e2 : g = D := by simpa using h
          omega)
      · have hb := Turn.to_bl BW6.out HT.out (fun i hi => by have := BW.out.size; rcases hi with h | h <;> omega)
        exact Turn.to_bl hb t' (fun i hi => by have : i = D := by simpa using hi
                                               have := BW6.out.size; omega)

end Go.Proofs.Ytjmooakjdcepcaa
