/-
  What is proved here: a file is put in among others, in whatever way there is room. No conditions beyond those that each theorem states.
-/
import Derived.Test.YtipmjgciaalmbaaDKI3
import Derived.Lib.Overlaps
import Derived.Lib.AppendZerosOnto
import Derived.Deep.RegionLaw
set_option linter.unusedSimpArgs false
set_option linter.unusedVariables false
namespace Go.Proofs.Ytipmjgciaalmbaa
open Go.RowKit

theorem splice_ab {α : Type} (C P X Y : List α) (a x y : Nat) (hP : C.take a = P) (ha : a ≤ C.length) (hx : X.length = x) (hy : Y.length = y) (hfit : a + x + y ≤ C.length) :
    (splice (splice C a X) (a + x) Y).take (a + x + y) = P ++ (X ++ Y) := by
  subst hP; subst hx; subst hy
  have e1 : (splice C a X).take (a + X.length) = C.take a ++ X := by
    unfold splice
    rw [← List.append_assoc, List.take_append_of_le_length (by simp; omega)]
    exact List.take_of_length_le (by simp; omega)
  show ((splice C a X).take (a + X.length) ++ (Y ++ _)).take _ = _
  rw [e1, ← List.append_assoc, List.take_append_of_le_length (by simp; omega), List.take_of_length_le (by simp; omega), List.append_assoc]
theorem splice_ba {α : Type} (C P X Y : List α) (a x y : Nat) (hP : C.take a = P) (ha : a ≤ C.length) (hx : X.length = x) (hy : Y.length = y) (hfit : a + x + y ≤ C.length) :
    (splice (splice C (a + x) Y) a X).take (a + x + y) = P ++ (X ++ Y) := by
  subst hP; subst hx; subst hy
  have e0 : (splice C (a + X.length) Y).take a = C.take a := by
    unfold splice
    rw [List.take_append_of_le_length (by simp; omega), List.take_take, Nat.min_eq_left (by omega)]
  have e1 : ((splice C (a + X.length) Y).drop (a + X.length)).take Y.length = Y := by
    unfold splice
    rw [List.drop_append_of_le_length (by simp; omega), List.drop_of_length_le (by simp; omega), List.nil_append]
    rw [List.take_append_of_le_length (Nat.le_refl _)]
    exact List.take_of_length_le (Nat.le_refl _)
  show ((splice C (a + X.length) Y).take a ++ (X ++ (splice C (a + X.length) Y).drop (a + X.length))).take _ = _
  rw [e0, ← List.append_assoc, List.take_append, List.take_of_length_le (by simp; omega), List.append_assoc]
  congr 1
  congr 1
  rw [show a + X.length + Y.length - (C.take a ++ X).length = Y.length from by simp; omega]
  exact e1
theorem csE_ins (L : List Fl) (i : Nat) (f : Fl) : csE encF (L.take i ++ f :: L.drop i) = csE encF (L.take i) ++ (encF f ++ csE encF (L.drop i)) := by
  rw [csE_append]; rfl

set_option maxHeartbeats 1000000 in
theorem wp_append_FileAt {ops : Array Oper} {rest : List Oper} {o : Oper} {a : Act} {Q : Exit → Act → World → Prop} (hgd : o.guard = none) (s x : Operand)
    (ho : o.op = .call { callee := .builtin .append, args := #[s, x], argTypes := #[28, 28] })
    (w : World) (B b : Nat) (v : Value) (V : List Fl) (f : Fl) (hs : a.eval s = v) (hx : a.eval x = .slice (some ⟨b, 0, none⟩) 1 1)
    (hO : OwnF w B v V) (hl : V.length ≤ 1048575) (hB : B ≤ w.heap.size) (h0 : w.cell? ⟨b, 0, none⟩ = some (.string f.1)) (h1 : w.cell? ⟨b, 1, none⟩ = some (.string f.2))
    (h : ∀ v' w', OwnF w' B v' (V ++ [f]) → (∀ W : World, Bl W w → W.heap.size ≤ B → Bl W w') → wpList Try.prog ops Q rest (a.put o.dst v') w') :
    wpList Try.prog ops Q (o :: rest) a w := by
  obtain ⟨i0, hi, hz0, hz1, hz2⟩ := info_parts infoFile
  have hO' : w.ownsRow B 89 2 v V.length (csE encF V) := hO
  refine wpList_append_own_at _ hgd s x _ ho B 89 i0 _ 2 32 Try.underlying28 hi hz0 hz1 hz2 rfl (by decide) v V.length (csE encF V) hs hO' ⟨b, 0, none⟩ 1 1 (encF f) hx rfl ?_ (encF_one f) (by unfold maxLen; omega) (by omega) hB ?_
  · intro j u hj
    rw [Go.WideShapes.add_plain, Nat.zero_add]
    match j, hj with
    | 0, hj => exact h0.trans hj
    | 1, hj => exact h1.trans hj
    | j + 2, hj => simp [encF] at hj
  · intro v' w' g1 g2 _ _
    refine h v' w' (own_snocFile g1) fun W hW hWB => ?_
    refine hW.grown_ g2 fun g hg => ?_
    have := (World.ownsRow.lt hO' g hg).1
    omega

theorem cells_of_row {w : World} {g n : Nat} {cur : Array Value} {t : TypeId} {M : List Fl} (hg : w.heap[g]? = some (.cells cur t (0, 0))) (ht : cur.toList.take (n * 2) = csE encF M) (hn : n = M.length) (i : Nat) :
    ∀ j v, (csE encF (M.drop i))[j]? = some v → w.cell? ⟨g, i * 2 + j, none⟩ = some v := by
  intro j v hv
  rw [csE_drop encF_len, List.getElem?_drop, ← ht] at hv
  have hj : i * 2 + j < n * 2 := by
    have := (List.getElem?_eq_some_iff.1 hv).1
    rw [List.length_take] at this
    omega
  rw [List.getElem?_take, if_pos hj] at hv
  have hv' : cur[i * 2 + j]? = some v := by simpa using hv
  simp [World.cell?, hg, hv']

set_option maxRecDepth 100000 in
set_option maxHeartbeats 8000000 in
theorem insertF_any (W : World) (v : Value) (L : List Fl) (i n : Nat) (f : Fl) (b : Nat) (tb : TypeId) (w : World) (hn : n = L.length) (hm : n ≤ 1048000) (hi : i ≤ n) (hW : Bl W w) (H1 : OwnF w W.heap.size v L)
    (hb : w.heap[b]? = some (.cells #[.string f.1, .string f.2] tb (0, 0))) (hbv : ∀ g, v.ownBlock = some g → b ≠ g) :
    Calls Try.prog 120 #[v, .int .i64 (i : Int), .slice (some ⟨b, 0, none⟩) 1 1] w fun e w' => (∃ v', e = .returned v' ∧ OwnF w' W.heap.size v' (L.take i ++ f :: L.drop i)) ∧ Bl W w' := by
  obtain ⟨A, c, rfl, hc, hA, hgA⟩ := own_shapeF H1
  have BW := Lib.hid hW
  have hbl := (Array.getElem?_eq_some_iff.1 hb).1
  have b0 : w.cell? ⟨b, 0, none⟩ = some (.string f.1) := by simp [World.cell?, hb]
  have b1 : w.cell? ⟨b, 1, none⟩ = some (.string f.2) := by simp [World.cell?, hb]
  rw [← hn] at H1 hc hbv ⊢
  have OW := Lib.hid H1
  have HB := Lib.hid hb
  have HBV := Lib.hid hbv
  have HN := Lib.hid hn
  have B0 := Lib.hid b0
  have B1 := Lib.hid b1
  have hi0 : (0 : Int) ≤ (i : Int) := by omega
  have hin0 : (i : Int) ≤ (n : Int) := by omega
  rcases Nat.eq_or_lt_of_le hi with rfl | hlt
  · have HE := Lib.hid (show L.take i ++ f :: L.drop i = L ++ [f] from by rw [List.take_of_length_le (by omega), List.drop_of_length_le (by omega)])
    clear H1 hA hW hb hbv b0 b1 hn
    have go : ∀ hcc : Hid (c = i ∨ ¬ c = i), Calls Try.prog 120 #[.slice A i c, .int .i64 (i : Int), .slice (some ⟨b, 0, none⟩) 1 1] w fun e w' => (∃ v', e = .returned v' ∧ OwnF w' W.heap.size v' (L ++ [f])) ∧ Bl W w' := by
      intro hcc
      rcases hcc.out with rfl | hci
      · go_enter Try.func120, Try.ntmps120
        go_wp2_with (at_builtin; refine wp_append_FileAt rfl (.tmp 23) (.tmp 24) rfl _ W.heap.size b _ L f rfl rfl OW.out (by have := HN.out; omega) BW.out.size B0.out B1.out ?_)
        intro v8 w8 hv8 hb8
        have V := Lib.hid hv8
        have B8 := Lib.hid (hb8 W BW.out (Nat.le_refl _))
        clear hv8 hb8
        go_wp2
        go_ret
        exact ⟨⟨_, rfl, V.out⟩, B8.out⟩
      · go_enter Try.func120, Try.ntmps120
        go_wp2_with (at_builtin; refine wp_append_FileAt rfl (.tmp 23) (.tmp 24) rfl _ W.heap.size b _ L f rfl rfl OW.out (by have := HN.out; omega) BW.out.size B0.out B1.out ?_)
        intro v8 w8 hv8 hb8
        have V := Lib.hid hv8
        have B8 := Lib.hid (hb8 W BW.out (Nat.le_refl _))
        clear hv8 hb8
        go_wp2
        go_ret
        exact ⟨⟨_, rfl, V.out⟩, B8.out⟩
    rw [HE.out]
    exact go (Lib.hid (Decidable.em _))
  · have hshape := Owns.shape (show Owns _ _ _ _ _ _ _ from H1)
    obtain ⟨A', c', heq, -, -, -, h3⟩ := hshape
    obtain ⟨g, hA', hgB, hgl, -, -⟩ := h3 (by omega)
    injection heq with heq1 heq2 heq3
    subst heq1
    subst hA'
    subst heq3
    clear heq2
    have hbg : b ≠ g := hbv g rfl
    obtain ⟨-, cur, hg, hcs, -, hcm, -, ht⟩ := own_rowF H1
    have hci : ¬ c = i := by omega
    have hin : ¬ (i : Int) = (n : Int) := by omega
    have hY : (csE encF (L.drop i)).length = (n - i) * 2 := by rw [csE_length encF_len, List.length_drop, hn]
    have hXl : (encF f).length = 2 := rfl
    have hP : cur.toList.take (i * 2) = csE encF (L.take i) := by
      rw [csE_take encF_len, ← ht, List.take_take, Nat.min_eq_left (by omega)]
    have hsrcY := cells_of_row hg ht hn i
    have hsrcX : ∀ j u, (encF f)[j]? = some u → w.cell? ⟨b, 0 + j, none⟩ = some u := fun j u hj => by
      rw [Nat.zero_add]
      match j, hj with
      | 0, hj => exact b0.trans hj
      | 1, hj => exact b1.trans hj
      | j + 2, hj => simp [encF] at hj
    obtain ⟨i0, hi', hz0, hz1, hz2⟩ := info_parts infoFile
    have hsz2 : (Try.prog.info? 89).map (·.size) = some 2 := by rw [hi']; simp [hz1]
    have w1 : IntKind.i64.wrap ((n : Int) + 1) = (n : Int) + 1 := IntWalk.i64_in _ (by omega)
    have w2 : IntKind.i64.wrap ((i : Int) + 1) = (i : Int) + 1 := IntWalk.i64_in _ (by omega)
    have w3 : IntKind.i64.wrap ((n : Int) + 1 - (i : Int)) = (n : Int) + 1 - (i : Int) := IntWalk.i64_in _ (by omega)
    have n1 : ((n : Int) + 1).toNat = n + 1 := by omega
    have n2 : ((i : Int) + 1).toNat = i + 1 := by omega
    have p1 : (0 : Int) ≤ (i : Int) + 1 := by omega
    have p2 : (0 : Int) ≤ (n : Int) + 1 := by omega
    have p3 : (i : Int) + 1 ≤ (n : Int) + 1 := by omega
    have p4 : (i : Int) ≤ (n : Int) + 1 := by omega
    by_cases hroom : n + 1 ≤ c
    · have hr1 : ¬ (c : Int) < (n : Int) + 1 := by omega
      have hr2 : (n : Int) + 1 ≤ (c : Int) := by omega
      have hci1 : ¬ c = i + 1 := by omega
      have hov : ∀ lb cb, (callFunc 136 #[.slice (some ⟨b, 0, none⟩) 1 1, .slice (some ⟨g, (i + 1) * 2, none⟩) lb cb]).run Try.prog w = .ok (.value (.bool false)) w := fun lb cb => by
        rw [run_callFunc_extern Try.func136 (by kernel_rfl) (by kernel_rfl) (by kernel_rfl) (e := Extern.SlicesOverlaps.overlaps #[28, 28] #[4]) (by kernel_rfl),
          Lib.run_overlaps_apart w 28 4 89 Try.underlying28 2 (fun w => by simp [sizeOf, typeInfo, hi', hz1]) ⟨b, 0, none⟩ ⟨g, (i + 1) * 2, none⟩ 1 1 lb cb hbg tb 89 2 cur.size (by simp [World.shape?, hb]) (by simp [World.shape?, hg]) (by omega) (by simp [World.frozen?, hb]) (by simp [World.frozen?, hb])]
        rfl
      have hfitY : (i + 1) * 2 + (csE encF (L.drop i)).length ≤ cur.size := by rw [hY, hcs]; omega
      have hcp1 : ∀ ty dc sc, (Builtin.copy_ #[28, 28] ty #[.slice (some ⟨g, (i + 1) * 2, none⟩) (n - i) dc, .slice (some ⟨g, i * 2, none⟩) (n + 1 - i) sc]).run Try.prog w.drew = .ok (goInt (Nat.min (n + 1 - i) (n - i))) (w.drew.setRow g (splice cur.toList ((i + 1) * 2) (csE encF (L.drop i))).toArray) := fun ty dc sc =>
        run_copy_wide w.drew _ _ ty 89 2 g ((i + 1) * 2) (n - i) dc ⟨g, i * 2, none⟩ (n + 1 - i) sc cur _ (csE encF (L.drop i)) Try.underlying28 hsz2 hg (by rw [hY, show Nat.min (n + 1 - i) (n - i) = n - i from by simp only [Nat.min_def]; split <;> omega])
          (fun j u hj => by rw [Go.WideShapes.add_plain]; exact hsrcY j u hj) hfitY (csE_one encF_one _)
      obtain ⟨W1, hW1⟩ : ∃ W1, W1 = w.drew.setRow g (splice cur.toList ((i + 1) * 2) (csE encF (L.drop i))).toArray := ⟨_, rfl⟩
      have hg1 : W1.heap[g]? = some (.cells (splice cur.toList ((i + 1) * 2) (csE encF (L.drop i))).toArray 89 (0, 0)) := by rw [hW1]; exact setRow_heap w.drew g cur _ _ _ hg
      have hlY : (splice cur.toList ((i + 1) * 2) (csE encF (L.drop i))).length = cur.size := by
        rw [length_splice _ _ _ (by simpa using hfitY)]; simp
      have hb1' : W1.heap[b]? = w.heap[b]? := by rw [hW1]; exact setRow_other w.drew g b _ hbg
      have hcp2 : ∀ ty dc, (Builtin.copy_ #[28, 28] ty #[.slice (some ⟨g, i * 2, none⟩) (n + 1 - i) dc, .slice (some ⟨b, 0, none⟩) 1 1]).run Try.prog W1 = .ok (goInt (Nat.min 1 (n + 1 - i))) (W1.setRow g (splice (splice cur.toList ((i + 1) * 2) (csE encF (L.drop i))) (i * 2) (encF f)).toArray) := fun ty dc => by
        have := run_copy_wide (P := Try.prog) W1 28 28 ty 89 2 g (i * 2) (n + 1 - i) dc ⟨b, 0, none⟩ 1 1 _ _ (encF f) Try.underlying28 hsz2 hg1 (by rw [hXl, show Nat.min 1 (n + 1 - i) = 1 from by simp only [Nat.min_def]; split <;> omega])
          (fun j u hj => by rw [Go.WideShapes.add_plain, World.cell?_of_block (a := ⟨b, 0 + j, none⟩) hb1']; exact hsrcX j u hj) (by rw [List.size_toArray, hlY, hXl, hcs]; omega) (encF_one f)
        simpa using this
      rw [← hW1] at hcp1
      have FIN := Lib.hid (show OwnF (W1.setRow g (splice (splice cur.toList ((i + 1) * 2) (csE encF (L.drop i))) (i * 2) (encF f)).toArray) W.heap.size (.slice (some ⟨g, 0, none⟩) (n + 1) c) (L.take i ++ f :: L.drop i) from by
        refine own_mkF (by simp; omega) (setRow_heap W1 g _ _ _ _ hg1) ?_ hroom hcm hgB ?_
        · rw [List.size_toArray, length_splice _ _ _ (by rw [hlY, hXl, hcs]; omega), hlY, hcs]
        · rw [csE_ins, show (i + 1) * 2 = i * 2 + 2 from by omega, show (n + 1) * 2 = i * 2 + 2 + (n - i) * 2 from by omega]
          exact splice_ba cur.toList _ _ _ (i * 2) 2 ((n - i) * 2) hP (by simp; omega) hXl hY (by simp; omega))
      have FB := Lib.hid (show Bl W (W1.setRow g (splice (splice cur.toList ((i + 1) * 2) (csE encF (L.drop i))) (i * 2) (encF f)).toArray) from by
        rw [hW1]
        exact ((BW.out.drew_).grown_ (setRow_grown _ g _) (fun k hk => by injection hk with hk; rw [← hk]; exact hgB)).grown_ (setRow_grown _ g _) (fun k hk => by injection hk with hk; rw [← hk]; exact hgB))
      clear H1 hA hW hb hbv b0 b1 hn hg hcs ht hP hsrcY hsrcX hi' hz0 hz1 hz2 hfitY hg1 hlY hb1' hsz2 hY hXl hW1 hgA
      go_enter Try.func120, Try.ntmps120
      go_wp2_with (simp only [hov])
      go_region_law (refine step_copy_by rfl (.tmp 73) (.tmp 76) _ _ rfl _ _ (by simp [Act.eval, Act.put]) (by simp [Act.eval, Act.put]) (hcp1 _ _ _) ?_)
      go_wp2_with (at_builtin; refine wpList_copy_by _ rfl (.tmp 80) (.tmp 81) _ _ rfl _ _ rfl rfl (hcp2 _ _) ?_)
      go_ret
      exact ⟨⟨_, rfl, FIN.out⟩, FB.out⟩
    · have hr1 : (c : Int) < (n : Int) + 1 := by omega
      have hnc : n = c := by omega
      have hold : (Builtin.firstCells i0.size i (.slice (some ⟨g, 0, none⟩) i c)).run Try.prog w.drew = .ok (csE encF (L.take i)).toArray w.drew := by
        have hl := run_loadCells_list (P := Try.prog) w.drew ⟨g, 0, none⟩ (csE encF (L.take i)) (fun j u hj => by
          rw [Go.WideShapes.add_plain, Nat.zero_add]
          rw [← hP, List.getElem?_take] at hj
          split at hj
          · have hj' : cur[j]? = some u := by simpa using hj
            show w.cell? _ = _
            simp [World.cell?, hg, hj']
          · cases hj)
        rw [csE_length encF_len, List.length_take, Nat.min_eq_left (by omega)] at hl
        simp [Builtin.firstCells, hz1, hl]
      have hk1 : ((n + 1 - i : Nat) : Int) = (n : Int) + 1 - (i : Int) := by omega
      have hki : i + (n + 1 - i) = n + 1 := by omega
      have hrun : ∀ ty, (Builtin.append_ #[28, 3] ty #[.slice (some ⟨g, 0, none⟩) i c, .int .i64 ((n : Int) + 1 - (i : Int))]).run Try.prog w = .ok (.slice (some ⟨w.heap.size, 0, none⟩) (n + 1) (grownCap w (n + 1) c 89))
          (w.drew.alloc (.cells ((csE encF (L.take i)).toArray ++ Builtin.zeroCells (Value.agg #[.string ⟨#[]⟩, .string ⟨#[]⟩]).cells (n + 1 - i) ++ Builtin.zeroCells (Value.agg #[.string ⟨#[]⟩, .string ⟨#[]⟩]).cells (grownCap w (n + 1) c 89 - (n + 1))) 89)) := fun ty => by
        have := Lib.run_append_grow_zeros (P := Try.prog) w 28 3 ty 89 i0 _ .i64 .i64 Try.underlying28 Try.underlying3 hi' hz0 (some ⟨g, 0, none⟩) i c _ hold (n + 1 - i) (by omega) (by rw [hz1]; omega) (by omega) (by omega) (by rw [hz2]; omega) (growslice_fits (by omega) (by rw [hz2]; omega))
        rw [hki, hk1] at this
        exact this
      obtain ⟨c2, hc2⟩ : ∃ c2, c2 = grownCap w (n + 1) c 89 := ⟨_, rfl⟩
      have hc2n : n + 1 ≤ c2 := by rw [hc2]; exact grownCap_ge w _ _ _
      have hc2m : c2 ≤ maxLen := by rw [hc2]; exact grownCap_le_maxLen w _ _ _ (by unfold maxLen; omega)
      obtain ⟨cu, hcu⟩ : ∃ cu : Array Value, cu = (csE encF (L.take i)).toArray ++ Builtin.zeroCells (Value.agg #[.string ⟨#[]⟩, .string ⟨#[]⟩]).cells (n + 1 - i) ++ Builtin.zeroCells (Value.agg #[.string ⟨#[]⟩, .string ⟨#[]⟩]).cells (grownCap w (n + 1) c 89 - (n + 1)) := ⟨_, rfl⟩
      have hPl : (csE encF (L.take i)).length = i * 2 := by rw [csE_length encF_len, List.length_take, Nat.min_eq_left (by omega)]
      have hcus : cu.size = c2 * 2 := by
        rw [hcu, Array.size_append, Array.size_append, size_zeroF, size_zeroF, List.size_toArray, hPl, ← hc2]; omega
      have hcup : cu.toList.take (i * 2) = csE encF (L.take i) := by
        rw [hcu]
        simp only [Array.toList_append, List.append_assoc]
        rw [List.take_append_of_le_length (by rw [hPl]; exact Nat.le_refl _), List.take_of_length_le (by rw [hPl]; exact Nat.le_refl _)]
      rw [← hc2] at hrun
      rw [← hc2] at hcu
      rw [← hcu] at hrun
      obtain ⟨W0, hW0⟩ : ∃ W0, W0 = w.drew.alloc (.cells cu 89) := ⟨_, rfl⟩
      rw [← hW0] at hrun
      obtain ⟨G, hG⟩ : ∃ G, G = w.heap.size := ⟨_, rfl⟩
      rw [← hG] at hrun
      have hgG : g ≠ G := by omega
      have hbG : b ≠ G := by omega
      have hg0 : W0.heap[G]? = some (.cells cu 89 (0, 0)) := by rw [hW0, hG]; exact heap_alloc_new w.drew _
      have hgW0 : ∀ k, k < w.heap.size → W0.heap[k]? = w.heap[k]? := fun k hk => by rw [hW0]; show (w.heap.push (.cells cu 89))[k]? = w.heap[k]?; rw [Array.getElem?_push, if_neg (Nat.ne_of_lt hk)]
      have hfitX : i * 2 + (encF f).length ≤ cu.size := by rw [hXl, hcus]; omega
      have hcp1 : ∀ ty dc, (Builtin.copy_ #[28, 28] ty #[.slice (some ⟨G, i * 2, none⟩) (n + 1 - i) dc, .slice (some ⟨b, 0, none⟩) 1 1]).run Try.prog W0 = .ok (goInt (Nat.min 1 (n + 1 - i))) (W0.setRow G (splice cu.toList (i * 2) (encF f)).toArray) := fun ty dc =>
        run_copy_wide (P := Try.prog) W0 28 28 ty 89 2 G (i * 2) (n + 1 - i) dc ⟨b, 0, none⟩ 1 1 _ _ (encF f) Try.underlying28 hsz2 hg0 (by rw [hXl, show Nat.min 1 (n + 1 - i) = 1 from by simp only [Nat.min_def]; split <;> omega])
          (fun j u hj => by rw [Go.WideShapes.add_plain, World.cell?_of_block (a := ⟨b, 0 + j, none⟩) (hgW0 b hbl)]; exact hsrcX j u hj) hfitX (encF_one f)
      obtain ⟨W1, hW1⟩ : ∃ W1, W1 = W0.setRow G (splice cu.toList (i * 2) (encF f)).toArray := ⟨_, rfl⟩
      rw [← hW1] at hcp1
      have hg1 : W1.heap[G]? = some (.cells (splice cu.toList (i * 2) (encF f)).toArray 89 (0, 0)) := by rw [hW1]; exact setRow_heap W0 G cu _ _ _ hg0
      have hlX : (splice cu.toList (i * 2) (encF f)).length = cu.size := by
        rw [length_splice _ _ _ (by simpa using hfitX)]; simp
      have hgW1 : W1.heap[g]? = w.heap[g]? := by rw [hW1, setRow_other W0 G g _ hgG]; exact hgW0 g hgl
      have hcp2 : ∀ ty dc sc, (Builtin.copy_ #[28, 28] ty #[.slice (some ⟨G, (i + 1) * 2, none⟩) (n - i) dc, .slice (some ⟨g, i * 2, none⟩) (n - i) sc]).run Try.prog W1.drew = .ok (goInt (Nat.min (n - i) (n - i))) (W1.drew.setRow G (splice (splice cu.toList (i * 2) (encF f)) ((i + 1) * 2) (csE encF (L.drop i))).toArray) := fun ty dc sc => by
        have := run_copy_wide (P := Try.prog) W1.drew 28 28 ty 89 2 G ((i + 1) * 2) (n - i) dc ⟨g, i * 2, none⟩ (n - i) sc _ _ (csE encF (L.drop i)) Try.underlying28 hsz2 (show W1.drew.heap[G]? = _ from hg1) (by rw [hY, show Nat.min (n - i) (n - i) = n - i from by simp only [Nat.min_def]; split <;> omega])
          (fun j u hj => by rw [Go.WideShapes.add_plain, World.cell?_of_block (a := ⟨g, i * 2 + j, none⟩) (show W1.drew.heap[g]? = w.heap[g]? from hgW1)]; exact hsrcY j u hj) (by rw [List.size_toArray, hlX, hY, hcus]; omega) (csE_one encF_one _)
        simpa using this
      have FIN := Lib.hid (show OwnF (W1.drew.setRow G (splice (splice cu.toList (i * 2) (encF f)) ((i + 1) * 2) (csE encF (L.drop i))).toArray) W.heap.size (.slice (some ⟨G, 0, none⟩) (n + 1) c2) (L.take i ++ f :: L.drop i) from by
        refine own_mkF (by simp; omega) (setRow_heap W1.drew G _ _ _ _ (show W1.drew.heap[G]? = _ from hg1)) ?_ hc2n hc2m (by rw [hG]; exact BW.out.size) ?_
        · rw [List.size_toArray, length_splice _ _ _ (by rw [hlX, hY, hcus]; omega), hlX, hcus]
        · rw [csE_ins, show (i + 1) * 2 = i * 2 + 2 from by omega, show (n + 1) * 2 = i * 2 + 2 + (n - i) * 2 from by omega]
          exact splice_ab cu.toList _ _ _ (i * 2) 2 ((n - i) * 2) hcup (by simp; omega) hXl hY (by simp; omega))
      have FB := Lib.hid (show Bl W (W1.drew.setRow G (splice (splice cu.toList (i * 2) (encF f)) ((i + 1) * 2) (csE encF (L.drop i))).toArray) from by
        have hGB : W.heap.size ≤ G := by rw [hG]; exact BW.out.size
        rw [hW1, hW0]
        exact ((((BW.out.drew_).alloc_ _).grown_ (setRow_grown _ G _) (fun k hk => by injection hk with hk; rw [← hk]; exact hGB)).drew_).grown_ (setRow_grown _ G _) (fun k hk => by injection hk with hk; rw [← hk]; exact hGB))
      have hx1 : ¬ c2 = i := by omega
      have hx2 : ¬ c2 = i + 1 := by omega
      clear H1 hA hW hb hbv b0 b1 hn hg hcs ht hP hsrcY hsrcX hi' hz0 hz1 hz2 hfitX hg1 hlX hsz2 hY hXl hW1 hW0 hgA hold hk1 hki hcu hcus hcup hPl hg0 hgW0 hgW1 hG hc2 hnc
      go_enter Try.func120, Try.ntmps120
      go_wp2_with (at_builtin; refine Lib.wpList_append_run _ rfl (.tmp 34) (.tmp 39) 28 3 rfl _ _ rfl rfl _ _ (hrun _) ?_)
      go_wp2_with (at_builtin; refine wpList_copy_by _ rfl (.tmp 43) (.tmp 44) _ _ rfl _ _ rfl rfl (hcp1 _ _) ?_)
      go_wp2
      go_region_law (refine step_copy_by rfl (.tmp 50) (.tmp 53) _ _ rfl _ _ (by simp [Act.eval, Act.put]) (by simp [Act.eval, Act.put]) (hcp2 _ _ _) ?_)
      go_wp2
      go_ret
      exact ⟨⟨_, rfl, FIN.out⟩, FB.out⟩

end Go.Proofs.Ytipmjgciaalmbaa
