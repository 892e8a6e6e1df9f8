/-
  What is proved here: an op is put ahead of others; the ops of a Replace; the program's way of doing an op to a right disk. No conditions beyond those that each theorem states.
-/
import Derived.Test.YtgfmgmcpfefmkaaV7G14
import Derived.Test.YtgfmgmcpfefmkaaV7G08
import Derived.Test.YtgfmgmcpfefmkaaV7DKE2
set_option linter.unusedSimpArgs false
set_option linter.unusedVariables false
namespace Go.Proofs.Ytgfmgmcpfefmkaa
open Go.RowKit

theorem own_rowO {w : World} {B n cap g : Nat} {M : List Dp} (h : OwnO w B (.slice (some ⟨g, 0, none⟩) n cap) M) :
    n = M.length ∧ ∃ cur : Array Value, w.heap[g]? = some (.cells cur 51 (0, 0)) ∧ cur.size = cap * 4 ∧ n ≤ cap ∧ cap ≤ maxLen ∧ B ≤ g ∧ cur.toList.take (n * 4) = csE encO M := by
  have h' : w.ownsRow B 51 4 (.slice (some ⟨g, 0, none⟩) n cap) M.length (csE encO M) := h
  rcases h'.2 with ⟨e, h0⟩ | ⟨g', cap', cur, e, hB, hg, hnc, hcm, hcs, htake⟩
  · injection e with e1 e2 e3
    cases e1
  · injection e with e1 e2 e3
    injection e1 with e1
    injection e1 with e1 e4 e5
    subst e1; subst e2; subst e3
    exact ⟨rfl, cur, hg, hcs, hnc, hcm, hB, htake⟩
theorem own_mkO {w : World} {B n cap g : Nat} {M : List Dp} {cur : Array Value} (hn : n = M.length) (hg : w.heap[g]? = some (.cells cur 51 (0, 0))) (hcs : cur.size = cap * 4) (hnc : n ≤ cap) (hcm : cap ≤ maxLen) (hB : B ≤ g) (ht : cur.toList.take (n * 4) = csE encO M) :
    OwnO w B (.slice (some ⟨g, 0, none⟩) n cap) M := by
  subst hn
  exact ⟨csE_length encO_len M, .inr ⟨g, cap, cur, rfl, hB, hg, hnc, hcm, hcs, ht⟩⟩
theorem size_zeroO (n : Nat) : (Builtin.zeroCells (Value.agg #[.int .i64 0, .string ⟨#[]⟩, .string ⟨#[]⟩, .string ⟨#[]⟩]).cells n).size = n * 4 := by rw [size_zeroCells]; rfl
theorem csO_ins (L : List Dp) (i : Nat) (f : Dp) : csE encO (L.take i ++ f :: L.drop i) = csE encO (L.take i) ++ (encO f ++ csE encO (L.drop i)) := by
  rw [csE_append]; rfl
theorem cells_of_rowO {w : World} {g n : Nat} {cur : Array Value} {t : TypeId} {M : List Dp} (hg : w.heap[g]? = some (.cells cur t (0, 0))) (ht : cur.toList.take (n * 4) = csE encO M) (hn : n = M.length) (i : Nat) :
    ∀ j v, (csE encO (M.drop i))[j]? = some v → w.cell? ⟨g, i * 4 + j, none⟩ = some v := by
  intro j v hv
  rw [csE_drop encO_len, List.getElem?_drop, ← ht] at hv
  have hj : i * 4 + j < n * 4 := by
    have := (List.getElem?_eq_some_iff.1 hv).1
    rw [List.length_take] at this
    omega
  rw [List.getElem?_take, if_pos hj] at hv
  have hv' : cur[i * 4 + j]? = some v := by simpa using hv
  simp [World.cell?, hg, hv']

set_option maxRecDepth 100000 in
set_option maxHeartbeats 8000000 in
theorem insertO_full (W : World) (L : List Dp) (i n c g : Nat) (f : Dp) (b : Nat) (tb : TypeId) (w : World) (hn : n = L.length) (hm : n ≤ 1048000) (hlt : i < n) (hW : Bl W w) (H1 : OwnO w W.heap.size (.slice (some ⟨g, 0, none⟩) n c) L) (hfull : ¬ n + 1 ≤ c)
    (hb : w.heap[b]? = some (.cells #[.int .i64 f.kind, .string f.name, .string f.to, .string f.data] tb (0, 0))) (hbg : b ≠ g) :
    Calls Try.prog 84 #[.slice (some ⟨g, 0, none⟩) n c, .int .i64 (i : Int), .slice (some ⟨b, 0, none⟩) 1 1] w fun e w' => (∃ v', e = .returned v' ∧ OwnO w' W.heap.size v' (L.take i ++ f :: L.drop i)) ∧ Bl W w' := by
  have hroom := hfull
  have BW := Lib.hid hW
  have hbl := (Array.getElem?_eq_some_iff.1 hb).1
  have b0 : w.cell? ⟨b, 0, none⟩ = some (.int .i64 f.kind) := by simp [World.cell?, hb]
  have b1 : w.cell? ⟨b, 1, none⟩ = some (.string f.name) := by simp [World.cell?, hb]
  have b2 : w.cell? ⟨b, 2, none⟩ = some (.string f.to) := by simp [World.cell?, hb]
  have b3 : w.cell? ⟨b, 3, none⟩ = some (.string f.data) := by simp [World.cell?, hb]
  have HN := Lib.hid hn
  have hi0 : (0 : Int) ≤ (i : Int) := by omega
  have hin0 : (i : Int) ≤ (n : Int) := by omega
  obtain ⟨-, cur, hg, hcs, hnc0, hcm, hgB, ht⟩ := own_rowO H1
  have hgl := (Array.getElem?_eq_some_iff.1 hg).1
  have hci : ¬ c = i := by omega
  have hin : ¬ (i : Int) = (n : Int) := by omega
  have hY : (csE encO (L.drop i)).length = (n - i) * 4 := by rw [csE_length encO_len, List.length_drop, hn]
  have hXl : (encO f).length = 4 := rfl
  have hP : cur.toList.take (i * 4) = csE encO (L.take i) := by
    rw [csE_take encO_len, ← ht, List.take_take, Nat.min_eq_left (by omega)]
  have hsrcY := cells_of_rowO hg ht hn i
  have hsrcX : ∀ j u, (encO f)[j]? = some u → w.cell? ⟨b, 0 + j, none⟩ = some u := fun j u hj => by
    rw [Nat.zero_add]
    match j, hj with
    | 0, hj => exact b0.trans hj
    | 1, hj => exact b1.trans hj
    | 2, hj => exact b2.trans hj
    | 3, hj => exact b3.trans hj
    | j + 4, hj => simp [encO] at hj
  obtain ⟨i0, hi', hz0, hz1, hz2⟩ := info_parts infoDOp
  have hsz2 : (Try.prog.info? 51).map (·.size) = some 4 := by rw [hi']; simp [hz1]
  have w1 : IntKind.i64.wrap ((n : Int) + 1) = (n : Int) + 1 := IntWalk.i64_in _ (by omega)
  have w2 : IntKind.i64.wrap ((i : Int) + 1) = (i : Int) + 1 := IntWalk.i64_in _ (by omega)
  have w3 : IntKind.i64.wrap ((n : Int) + 1 - (i : Int)) = (n : Int) + 1 - (i : Int) := IntWalk.i64_in _ (by omega)
  have n1 : ((n : Int) + 1).toNat = n + 1 := by omega
  have n2 : ((i : Int) + 1).toNat = i + 1 := by omega
  have p1 : (0 : Int) ≤ (i : Int) + 1 := by omega
  have p2 : (0 : Int) ≤ (n : Int) + 1 := by omega
  have p3 : (i : Int) + 1 ≤ (n : Int) + 1 := by omega
  have p4 : (i : Int) ≤ (n : Int) + 1 := by omega
  have hr1 : (c : Int) < (n : Int) + 1 := by omega
  have hnc : n = c := by omega
  have hold : (Builtin.firstCells i0.size i (.slice (some ⟨g, 0, none⟩) i c)).run Try.prog w.drew = .ok (csE encO (L.take i)).toArray w.drew := by
    have hl := run_loadCells_list (P := Try.prog) w.drew ⟨g, 0, none⟩ (csE encO (L.take i)) (fun j u hj => by
      rw [Go.WideShapes.add_plain, Nat.zero_add]
      rw [← hP, List.getElem?_take] at hj
      split at hj
      · have hj' : cur[j]? = some u := by simpa using hj
        show w.cell? _ = _
        simp [World.cell?, hg, hj']
      · cases hj)
    rw [csE_length encO_len, List.length_take, Nat.min_eq_left (by omega)] at hl
    simp [Builtin.firstCells, hz1, hl]
  have hk1 : ((n + 1 - i : Nat) : Int) = (n : Int) + 1 - (i : Int) := by omega
  have hki : i + (n + 1 - i) = n + 1 := by omega
  have hrun : ∀ ty, (Builtin.append_ #[29, 3] ty #[.slice (some ⟨g, 0, none⟩) i c, .int .i64 ((n : Int) + 1 - (i : Int))]).run Try.prog w = .ok (.slice (some ⟨w.heap.size, 0, none⟩) (n + 1) (grownCap w (n + 1) c 51))
      (w.drew.alloc (.cells ((csE encO (L.take i)).toArray ++ Builtin.zeroCells (Value.agg #[.int .i64 0, .string ⟨#[]⟩, .string ⟨#[]⟩, .string ⟨#[]⟩]).cells (n + 1 - i) ++ Builtin.zeroCells (Value.agg #[.int .i64 0, .string ⟨#[]⟩, .string ⟨#[]⟩, .string ⟨#[]⟩]).cells (grownCap w (n + 1) c 51 - (n + 1))) 51)) := fun ty => by
    have := Lib.run_append_grow_zeros (P := Try.prog) w 29 3 ty 51 i0 _ .i64 .i64 Try.underlying29 Try.underlying3 hi' hz0 (some ⟨g, 0, none⟩) i c _ hold (n + 1 - i) (by omega) (by rw [hz1]; omega) (by omega) (by omega) (by rw [hz2]; omega) (growslice_fits (by omega) (by rw [hz2]; omega))
    rw [hki, hk1] at this
    exact this
  obtain ⟨c2, hc2⟩ : ∃ c2, c2 = grownCap w (n + 1) c 51 := ⟨_, rfl⟩
  have hc2n : n + 1 ≤ c2 := by rw [hc2]; exact grownCap_ge w _ _ _
  have hc2m : c2 ≤ maxLen := by rw [hc2]; exact grownCap_le_maxLen w _ _ _ (by unfold maxLen; omega)
  obtain ⟨cu, hcu⟩ : ∃ cu : Array Value, cu = (csE encO (L.take i)).toArray ++ Builtin.zeroCells (Value.agg #[.int .i64 0, .string ⟨#[]⟩, .string ⟨#[]⟩, .string ⟨#[]⟩]).cells (n + 1 - i) ++ Builtin.zeroCells (Value.agg #[.int .i64 0, .string ⟨#[]⟩, .string ⟨#[]⟩, .string ⟨#[]⟩]).cells (grownCap w (n + 1) c 51 - (n + 1)) := ⟨_, rfl⟩
  have hPl : (csE encO (L.take i)).length = i * 4 := by rw [csE_length encO_len, List.length_take, Nat.min_eq_left (by omega)]
  have hcus : cu.size = c2 * 4 := by
    rw [hcu, Array.size_append, Array.size_append, size_zeroO, size_zeroO, List.size_toArray, hPl, ← hc2]; omega
  have hcup : cu.toList.take (i * 4) = csE encO (L.take i) := by
    rw [hcu]
    simp only [Array.toList_append, List.append_assoc]
    rw [List.take_append_of_le_length (by rw [hPl]; exact Nat.le_refl _), List.take_of_length_le (by rw [hPl]; exact Nat.le_refl _)]
  rw [← hc2] at hrun
  rw [← hc2] at hcu
  rw [← hcu] at hrun
  obtain ⟨W0, hW0⟩ : ∃ W0, W0 = w.drew.alloc (.cells cu 51) := ⟨_, rfl⟩
  rw [← hW0] at hrun
  obtain ⟨G, hG⟩ : ∃ G, G = w.heap.size := ⟨_, rfl⟩
  rw [← hG] at hrun
  have hgG : g ≠ G := by omega
  have hbG : b ≠ G := by omega
  have hg0 : W0.heap[G]? = some (.cells cu 51 (0, 0)) := by rw [hW0, hG]; exact heap_alloc_new w.drew _
  have hgW0 : ∀ k, k < w.heap.size → W0.heap[k]? = w.heap[k]? := fun k hk => by rw [hW0]; show (w.heap.push (.cells cu 51))[k]? = w.heap[k]?; rw [Array.getElem?_push, if_neg (Nat.ne_of_lt hk)]
  have hfitX : i * 4 + (encO f).length ≤ cu.size := by rw [hXl, hcus]; omega
  have hcp1 : ∀ ty dc, (Builtin.copy_ #[29, 29] ty #[.slice (some ⟨G, i * 4, none⟩) (n + 1 - i) dc, .slice (some ⟨b, 0, none⟩) 1 1]).run Try.prog W0 = .ok (goInt (Nat.min 1 (n + 1 - i))) (W0.setRow G (splice cu.toList (i * 4) (encO f)).toArray) := fun ty dc =>
    run_copy_wide (P := Try.prog) W0 29 29 ty 51 4 G (i * 4) (n + 1 - i) dc ⟨b, 0, none⟩ 1 1 _ _ (encO f) Try.underlying29 hsz2 hg0 (by rw [hXl, show Nat.min 1 (n + 1 - i) = 1 from by simp only [Nat.min_def]; split <;> omega])
      (fun j u hj => by rw [Go.WideShapes.add_plain, World.cell?_of_block (a := ⟨b, 0 + j, none⟩) (hgW0 b hbl)]; exact hsrcX j u hj) hfitX (encO_one f)
  obtain ⟨W1, hW1⟩ : ∃ W1, W1 = W0.setRow G (splice cu.toList (i * 4) (encO f)).toArray := ⟨_, rfl⟩
  rw [← hW1] at hcp1
  have hg1 : W1.heap[G]? = some (.cells (splice cu.toList (i * 4) (encO f)).toArray 51 (0, 0)) := by rw [hW1]; exact setRow_heap W0 G cu _ _ _ hg0
  have hlX : (splice cu.toList (i * 4) (encO f)).length = cu.size := by
    rw [length_splice _ _ _ (by simpa using hfitX)]; simp
  have hgW1 : W1.heap[g]? = w.heap[g]? := by rw [hW1, setRow_other W0 G g _ hgG]; exact hgW0 g hgl
  have hcp2 : ∀ ty dc sc, (Builtin.copy_ #[29, 29] ty #[.slice (some ⟨G, (i + 1) * 4, none⟩) (n - i) dc, .slice (some ⟨g, i * 4, none⟩) (n - i) sc]).run Try.prog W1.drew = .ok (goInt (Nat.min (n - i) (n - i))) (W1.drew.setRow G (splice (splice cu.toList (i * 4) (encO f)) ((i + 1) * 4) (csE encO (L.drop i))).toArray) := fun ty dc sc => by
    have := run_copy_wide (P := Try.prog) W1.drew 29 29 ty 51 4 G ((i + 1) * 4) (n - i) dc ⟨g, i * 4, none⟩ (n - i) sc _ _ (csE encO (L.drop i)) Try.underlying29 hsz2 (show W1.drew.heap[G]? = _ from hg1) (by rw [hY, show Nat.min (n - i) (n - i) = n - i from by simp only [Nat.min_def]; split <;> omega])
      (fun j u hj => by rw [Go.WideShapes.add_plain, World.cell?_of_block (a := ⟨g, i * 4 + j, none⟩) (show W1.drew.heap[g]? = w.heap[g]? from hgW1)]; exact hsrcY j u hj) (by rw [List.size_toArray, hlX, hY, hcus]; omega) (csE_one encO_one _)
    simpa using this
  have FIN := Lib.hid (show OwnO (W1.drew.setRow G (splice (splice cu.toList (i * 4) (encO f)) ((i + 1) * 4) (csE encO (L.drop i))).toArray) W.heap.size (.slice (some ⟨G, 0, none⟩) (n + 1) c2) (L.take i ++ f :: L.drop i) from by
    refine own_mkO (by simp; omega) (setRow_heap W1.drew G _ _ _ _ (show W1.drew.heap[G]? = _ from hg1)) ?_ hc2n hc2m (by rw [hG]; exact BW.out.size) ?_
    · rw [List.size_toArray, length_splice _ _ _ (by rw [hlX, hY, hcus]; omega), hlX, hcus]
    · rw [csO_ins, show (i + 1) * 4 = i * 4 + 4 from by omega, show (n + 1) * 4 = i * 4 + 4 + (n - i) * 4 from by omega]
      exact splice_ab cu.toList _ _ _ (i * 4) 4 ((n - i) * 4) hcup (by simp; omega) hXl hY (by simp; omega))
  have FB := Lib.hid (show Bl W (W1.drew.setRow G (splice (splice cu.toList (i * 4) (encO f)) ((i + 1) * 4) (csE encO (L.drop i))).toArray) from by
    have hGB : W.heap.size ≤ G := by rw [hG]; exact BW.out.size
    rw [hW1, hW0]
    exact ((((BW.out.drew_).alloc_ _).grown_ (setRow_grown _ G _) (fun k hk => by injection hk with hk; rw [← hk]; exact hGB)).drew_).grown_ (setRow_grown _ G _) (fun k hk => by injection hk with hk; rw [← hk]; exact hGB))
  have hx1 : ¬ c2 = i := by omega
  have hx2 : ¬ c2 = i + 1 := by omega
  clear H1 hW hb hbg b0 b1 b2 b3 hn hg hcs ht hP hsrcY hsrcX hi' hz0 hz1 hz2 hfitX hg1 hlX hsz2 hY hXl hW1 hW0 hold hk1 hki hcu hcus hcup hPl hg0 hgW0 hgW1 hG hc2 hnc
  go_enter Try.func84, Try.ntmps84
  go_wp2_with (at_builtin; refine Lib.wpList_append_run _ rfl (.tmp 34) (.tmp 39) 29 3 rfl _ _ rfl rfl _ _ (hrun _) ?_)
  go_wp2_with (at_builtin; refine wpList_copy_by _ rfl (.tmp 43) (.tmp 44) _ _ rfl _ _ rfl rfl (hcp1 _ _) ?_)
  go_wp2
  go_region_law (refine step_copy_by rfl (.tmp 50) (.tmp 53) _ _ rfl _ _ (by simp [Act.eval, Act.put]) (by simp [Act.eval, Act.put]) (hcp2 _ _ _) ?_)
  go_wp2
  go_ret
  exact ⟨⟨_, rfl, FIN.out⟩, FB.out⟩


def OpsNewR (L : List Dp) (w : World) (e : Ending) (w' : World) : Prop := ∃ A n c, e = .returned (.slice A n c) ∧ n = L.length ∧ OwnO w' w.heap.size (.slice A n c) L ∧ Bl w w'

set_option maxRecDepth 100000 in
set_option maxHeartbeats 4000000 in
theorem replacing_any {A1 A2 A3 : Option Addr} {n1 n2 n3 c1 c2 c3 : Nat} {L1 L2 : List Fl} {O : List Dp} (hb : DkL n1 n2 n3 L1 L2 O) (hd : diskB (L1, L2, O) = true) (nm d : ByteArray) (hnm : nm.size ≤ 1048576) (w : World) (H : DiskAt w w.heap.size A1 A2 A3 L1 L2 O) :
    Calls Try.prog 53 #[.agg #[.slice A1 n1 c1, .slice A2 n2 c2, .slice A3 n3 c3], .string nm, .string d] w (OpsNewR (replO L1 nm d) w) := by
  have KH := Lib.hid H
  have KB := Lib.hid hb
  have m1 := hb.m1
  have SO := Lib.hid (ord_sorted (files_parts (disk_live hd)).2.2)
  obtain ⟨fr, hfr⟩ : ∃ fr, fr = newN nm := ⟨_, rfl⟩
  have hfr' : nm ++ (⟨#[46, 110, 101, 119]⟩ : ByteArray) = fr := hfr.symm
  have HFR := Lib.hid hfr
  have hcat : ¬ 9223372036854775807 < nm.size + 4 := by omega
  clear H hb hd hfr hnm
  go_enter Try.func53, Try.ntmps53
  go_wp2_with fail
  refine (hasFile_any fr A1 n1 c1 L1 KB.out.l1 _ m1 SO.out (KH.out.f1.bl (by repeat' (first | exact Bl.refl _ | with_reducible assumption | with_reducible refine Bl.drew_ ?_ | with_reducible refine Bl.drewN_ ?_ _ | with_reducible refine Bl.alloc_ ?_ _ | with_reducible refine Bl.trans_ ?_ (by assumption) | with_reducible refine Bl.trans_ ?_ (And.left (by assumption)))))).mono ?_
  rintro e w2 ⟨rfl, hb2⟩
  have z2 := hb2.size
  simp only [World.size_alloc] at z2
  have OW := Lib.hid (OwnO.bl (show OwnO _ w.heap.size (.slice (some ⟨w.heap.size + 1, 0, none⟩) 2 2) [⟨1, fr, ⟨#[]⟩, d⟩, ⟨2, fr, nm, ⟨#[]⟩⟩] from by
    refine own_mkO (cur := #[.int .i64 1, .string fr, .string ⟨#[]⟩, .string d, .int .i64 2, .string fr, .string nm, .string ⟨#[]⟩]) rfl ?_ rfl (by omega) (by unfold maxLen; omega) (by omega) rfl
    have := heap_alloc_new (w.alloc (.cells #[.slice A1 n1 c1, .slice A2 n2 c2, .slice A3 n3 c3] 31)) (.cells #[.int .i64 1, .string fr, .string ⟨#[]⟩, .string d, .int .i64 2, .string fr, .string nm, .string ⟨#[]⟩] 51)
    simpa only [World.size_alloc] using this) hb2)
  have B2 := Lib.hid ((((Bl.refl w).alloc_ _).alloc_ _).trans_ hb2)
  clear hb2
  by_cases hh : hasL L1 fr = true
  · have HE := Lib.hid (show replO L1 nm d = [⟨3, fr, ⟨#[]⟩, ⟨#[]⟩⟩, ⟨1, fr, ⟨#[]⟩, d⟩, ⟨2, fr, nm, ⟨#[]⟩⟩] from by rw [HFR.out] at hh; rw [replO_yes hh, HFR.out]; rfl)
    rw [hh]
    clear hh hfr'
    go_wp2_with fail
    refine (insertO_full w _ 0 2 2 (w.heap.size + 1) ⟨3, fr, ⟨#[]⟩, ⟨#[]⟩⟩ w2.heap.size 51 _ rfl (by omega) (by omega) (B2.out.alloc_ _) (OW.out.bl ((Bl.refl w2).alloc_ _)) (by omega) (heap_alloc_new w2 _) (by omega)).mono ?_
    rintro e w3 ⟨⟨v', rfl, hv⟩, hb3⟩
    obtain ⟨A', c', rfl, -, f1, -⟩ := Owns.shape (show Owns _ _ _ _ _ _ _ from hv)
    have F1 := Lib.hid hv
    have B3 := Lib.hid hb3
    clear hv f1 hb3
    go_wp2
    go_ret
    rw [HE.out]
    exact ⟨A', _, c', rfl, rfl, F1.out, B3.out⟩
  · have hh' : hasL L1 fr = false := by simpa using hh
    have HE := Lib.hid (show replO L1 nm d = [⟨1, fr, ⟨#[]⟩, d⟩, ⟨2, fr, nm, ⟨#[]⟩⟩] from by rw [HFR.out] at hh'; rw [replO_no hh', HFR.out]; rfl)
    rw [hh']
    clear hh hh' hfr'
    go_wp2
    go_ret
    rw [HE.out]
    exact ⟨_, 2, 2, rfl, rfl, OW.out, B2.out⟩

end Go.Proofs.Ytgfmgmcpfefmkaa

set_option linter.unusedSimpArgs false
set_option linter.unusedVariables false
namespace Go.Proofs.Ytgfmgmcpfefmkaa
open Go.RowKit

set_option maxRecDepth 100000 in
set_option maxHeartbeats 16000000 in
theorem doNext_anyL {A1 A2 A3 : Option Addr} {n1 n2 n3 c1 c2 c3 : Nat} {L1 L2 : List Fl} {O : List Dp} (hb : DkL n1 n2 n3 L1 L2 O) (hd : diskB (L1, L2, O) = true) (o : Dp) (hos : o.data.size ≤ 1048576) (w : World) (H : DiskAt w w.heap.size A1 A2 A3 L1 L2 O) :
    Calls Try.prog 54 #[.agg #[.slice A1 n1 c1, .slice A2 n2 c2, .slice A3 n3 c3], .agg #[.int .i64 o.kind, .string o.name, .string o.to, .string o.data]] w (ActNew (actD (L1, L2, O) o) w) := by
  obtain ⟨q, a, b, d⟩ := o
  simp only at hos
  have KH := Lib.hid H
  have KB := Lib.hid hb
  obtain ⟨f1, f2, f3⟩ := files_parts (disk_live hd)
  have SO := Lib.hid (ord_sorted f3)
  have OO := Lib.hid f3
  simp only at f1 f2
  have hn1 : n1 ≤ 60 := by have := KB.out.l1; omega
  have hO2 : n3 ≤ 200 := by
    have h := hd
    unfold diskB at h
    simp only [Bool.and_eq_true, decide_eq_true_eq] at h
    have := KB.out.l3
    omega
  have hdl := do_len L1 ⟨q, a, b, d⟩
  have hdsm := do_sum L1 ⟨q, a, b, d⟩
  simp only at hdsm
  clear H hb hd f3
  obtain ⟨w0, hw0⟩ : ∃ x, x = ((w.alloc (.cells #[.slice A1 n1 c1, .slice A2 n2 c2, .slice A3 n3 c3] 31)).alloc (.cells #[.int .i64 q, .string a, .string b, .string d] 51)).alloc (.cells #[.slice none 0 0, .slice none 0 0, .slice none 0 0] 31) := ⟨_, rfl⟩
  have B0 := Lib.hid (show Bl w w0 from by rw [hw0]; exact (((Bl.refl w).alloc_ _).alloc_ _).alloc_ _)
  have s0 : w0.heap.size = w.heap.size + 1 + 1 + 1 := by rw [hw0]; simp
  have HSH := Lib.hid (show ∀ wx, Bl w0 wx → wx.cell? ⟨w.heap.size, 0, none⟩ = some (.slice A1 n1 c1) ∧ wx.cell? ⟨w.heap.size, 1, none⟩ = some (.slice A2 n2 c2) ∧ wx.cell? ⟨w.heap.size, 2, none⟩ = some (.slice A3 n3 c3) ∧ wx.cell? ⟨w.heap.size + 1, 0, none⟩ = some (.int .i64 q) ∧ wx.cell? ⟨w.heap.size + 1, 1, none⟩ = some (.string a) ∧ wx.cell? ⟨w.heap.size + 1, 2, none⟩ = some (.string b) ∧ wx.cell? ⟨w.heap.size + 1, 3, none⟩ = some (.string d) from fun wx hb => by
    rw [hw0] at hb
    obtain ⟨a1, a2, a3⟩ := box3 (Bl.trans_ (((Bl.refl (w.alloc (.cells #[.slice A1 n1 c1, .slice A2 n2 c2, .slice A3 n3 c3] 31))).alloc_ _).alloc_ _) hb)
    obtain ⟨b1, b2, b3, b4⟩ := box4 (Bl.trans_ ((Bl.refl ((w.alloc (.cells #[.slice A1 n1 c1, .slice A2 n2 c2, .slice A3 n3 c3] 31)).alloc (.cells #[.int .i64 q, .string a, .string b, .string d] 51))).alloc_ _) hb)
    simp only [World.size_alloc] at b1 b2 b3 b4
    exact ⟨a1, a2, a3, b1, b2, b3, b4⟩)
  have HRS := Lib.hid (show ∀ wx, Bl w0 wx → wx.cell? ⟨w.heap.size + 1 + 1, 0, none⟩ = some (.slice none 0 0) ∧ wx.cell? ⟨w.heap.size + 1 + 1, 1, none⟩ = some (.slice none 0 0) ∧ wx.cell? ⟨w.heap.size + 1 + 1, 2, none⟩ = some (.slice none 0 0) ∧ ∀ o, wx.frozen? ⟨w.heap.size + 1 + 1, o, none⟩ = false from fun wx hb => by
    rw [hw0] at hb
    obtain ⟨a1, a2, a3⟩ := box3 hb
    simp only [World.size_alloc] at a1 a2 a3
    exact ⟨a1, a2, a3, fun o => by rw [(bcell hb).2 _ _ (by simp)]; simp [go_sem]⟩)
  have K0 := Lib.hid (KH.out.bl B0.out)
  have I0 := Lib.hid (Bl.refl w0)
  show Calls Try.prog 54 #[.agg #[.slice A1 n1 c1, .slice A2 n2 c2, .slice A3 n3 c3], .agg #[.int .i64 q, .string a, .string b, .string d]] w _
  by_cases b1 : formB ⟨q, a, b, d⟩ = true
  · have HB1 := Lib.hid b1
    have TA := True.intro
    by_cases b2 : foundB L1 ⟨q, a, b, d⟩ = true
    · have HB2 := Lib.hid b2
      clear b1 b2
      go_enter Try.func54, Try.ntmps54
      go_wp2_with fail
      rw [← hw0]
      refine (opOf_any ⟨q, a, b, d⟩ _).mono ?_
      rintro e w1 ⟨⟨xo, rfl, hxo⟩, hb1⟩
      have I1 := Lib.hid (I0.out.trans_ hb1)
      obtain ⟨x10, x11, x12, y10, y11, y12, y13⟩ := HSH.out _ I1.out
      clear hb1 hw0
      rw [HB1.out]
      have HX := Lib.hid (hxo HB1.out)
      clear hxo
      go_wp2_with fail
      rw [HX.out]
      refine (finds_any A1 n1 c1 L1 KB.out.l1 ⟨q, a, b, d⟩ HB1.out _ (by omega) SO.out (KH.out.f1.bl (B0.out.trans_ I1.out))).mono ?_
      rintro e w2 ⟨rfl, hb2⟩
      have I2 := Lib.hid (I1.out.trans_ hb2)
      clear x10 x11 x12 y10 y11 y12 y13
      obtain ⟨x20, x21, x22, y20, y21, y22, y23⟩ := HSH.out _ I2.out
      clear hb2
      rw [HB2.out]
      go_wp2_with fail
      try rw [HX.out]
      refine (done_any A1 n1 c1 L1 KB.out.l1 ⟨q, a, b, d⟩ HB1.out _ (by omega) (by omega) (by simp only; omega) SO.out (KH.out.f1.bl (B0.out.trans_ I2.out))).mono ?_
      rintro e w3 ⟨v3, rfl, hv3, hb3⟩
      have I3 := Lib.hid (I2.out.trans_ hb3)
      clear x20 x21 x22 y20 y21 y22 y23
      obtain ⟨x30, x31, x32, y30, y31, y32, y33⟩ := HSH.out _ I3.out
      obtain ⟨A', c', rfl, hc', ha', -⟩ := own_shapeF hv3
      have F3 := Lib.hid ha'
      have V3 := Lib.hid hv3
      have z2' := I2.out.size
      obtain ⟨D, hD⟩ : ∃ D, D = doL L1 ⟨q, a, b, d⟩ := ⟨_, rfl⟩
      rw [← hD] at hdl hdsm hc' F3 V3
      have HD := Lib.hid hD
      rw [← hD]
      obtain ⟨m', hm'⟩ : ∃ m', m' = D.length := ⟨_, rfl⟩
      rw [← hm'] at hdl hc' V3
      rw [← hm']
      have HM' := Lib.hid hm'
      have h200 : ((n3 : Int) == 200) = decide (n3 = 200) := by
        rw [Bool.eq_iff_iff]; simp; omega
      clear hv3 ha' hD hm' hb3
      by_cases b3 : n3 = 200
      · have e200 : ((n3 : Int) == 200) = true := by rw [h200]; simpa using b3
        have HB3 := Lib.hid b3
        clear h200 b3
        go_wp2_with fail
        refine (sameDisk_anyL KB.out _ (KH.out.bl (B0.out.trans_ I3.out))).mono ?_
        rintro e wz ⟨vA, vB, vC, rfl, hIz⟩
        obtain ⟨PA, PB, PC, kA, eA, kB, eB, kC, eC, ⟨rfl, rfl, rfl⟩, -⟩ := hIz.opened'
        have J := Lib.hid hIz
        obtain ⟨z0, z1, z2, z3⟩ := HRS.out _ (I3.out.trans_ hIz.bl)
        have hsz := I3.out.size
        clear hIz
        go_wp2
        refine bodyPost_ret (v := .tuple #[.agg #[.slice PA kA eA, .slice PB kB eB, .slice PC kC eC], .int .i64 4]) (by simp [results, Try.results54, go_sem, z0, z1, z2]) rfl ⟨.slice PA kA eA, .slice PB kB eB, .slice PC kC eC, by rw [show (actD (L1, L2, O) ⟨q, a, b, d⟩).2 = 4 from by unfold actD; rw [if_neg (by rw [HB1.out]; simp), if_neg (by simp only; rw [HB2.out]; simp), if_pos (.inl (by simp only; rw [← KB.out.l3]; exact HB3.out))]], ?_⟩
        rw [show (actD (L1, L2, O) ⟨q, a, b, d⟩).1 = (L1, L2, O) from by unfold actD; rw [if_neg (by rw [HB1.out]; simp), if_neg (by simp only; rw [HB2.out]; simp), if_pos (.inl (by simp only; rw [← KB.out.l3]; exact HB3.out))]]
        exact J.out.fin (B0.out.trans_ I3.out) (b := w.heap.size + 1 + 1) (by omega) (by omega) _ _ _
      · have e200 : ((n3 : Int) == 200) = false := by rw [h200]; simpa using b3
        clear h200
        go_wp2_with fail
        refine (fits_any A' m' c' D HM'.out _ (by omega) (by omega) F3.out).mono ?_
        rintro e w4 ⟨rfl, hb4⟩
        have V4 := Lib.hid (V3.out.bl hb4)
        have I4 := Lib.hid (I3.out.trans_ hb4)
        clear x30 x31 x32 y30 y31 y32 y33
        obtain ⟨x40, x41, x42, y40, y41, y42, y43⟩ := HSH.out _ I4.out
        clear hb4
        by_cases b4 : fitsB D = true
        · have HB4 := Lib.hid b4
          rw [b4]
          have HA := Lib.hid (show actD (L1, L2, O) ⟨q, a, b, d⟩ = ((D, L2, O ++ [⟨q, a, b, d⟩]), 0) from by unfold actD; rw [if_neg (by rw [HB1.out]; simp), if_neg (by simp only; rw [HB2.out]; simp), if_neg (by simp only; rintro (h | h); exact b3 (by rw [KB.out.l3]; exact h); rw [← HD.out, HB4.out] at h; exact absurd h (by simp)), ← HD.out])
          clear b4
          have hl3 : O.length ≤ 1048575 := by have := KB.out.l3; omega
          have I := Lib.hid (show In3 w0 w4.drew (.slice A' m' c') nilV nilV D [] [] from
            ⟨((V4.out.bl (Bl.drew_ (Bl.refl w4)))).low (by omega), Owns.nil_ _ _ _ _, Owns.nil_ _ _ _ _, I4.out.drew_, (fun g h1 h2 => by cases h2), (fun g h1 h2 => by cases h2), (fun g h1 h2 => by cases h2)⟩)
          go_wp2_with fail
          refine wp_region_held_drew (S := fun wx => wx.cell? ⟨w.heap.size, 0, none⟩ = some (.slice A1 n1 c1) ∧ wx.cell? ⟨w.heap.size, 1, none⟩ = some (.slice A2 n2 c2) ∧ wx.cell? ⟨w.heap.size, 2, none⟩ = some (.slice A3 n3 c3) ∧ wx.cell? ⟨w.heap.size + 1, 0, none⟩ = some (.int .i64 q) ∧ wx.cell? ⟨w.heap.size + 1, 1, none⟩ = some (.string a) ∧ wx.cell? ⟨w.heap.size + 1, 2, none⟩ = some (.string b) ∧ wx.cell? ⟨w.heap.size + 1, 3, none⟩ = some (.string d)) (by kernel_rfl) (HSH.out _ I.out.bl) (fun hHeld => ?_)
          clear x40 x41 x42 y40 y41 y42 y43
          refine wpAnyH_take (i := 0) (v := ?_) rfl (by kernel_rfl) (by kernel_rfl) (by kernel_rfl) (fun _ _ _ h => h) (Or.inl ⟨by kernel_rfl, ?_⟩) (by assumption) ?_
          rotate_left
          · (intro wx hSw; (try dsimp only at hSw); go_simp; try (with_reducible rfl))
          try simp only [Act.put, List.getElem_toArray, List.getElem_cons_succ, List.getElem_cons_zero, List.setIfInBounds_toArray, List.set_cons_zero, List.set_cons_succ]
          refine wpAnyH_take (i := 1) (v := ?_) rfl (by kernel_rfl) (by kernel_rfl) (by kernel_rfl) (fun _ _ _ h => h) (Or.inl ⟨by kernel_rfl, ?_⟩) (by assumption) ?_
          rotate_left
          · (intro wx hSw; (try dsimp only at hSw); go_simp; try (with_reducible rfl))
          try simp only [Act.put, List.getElem_toArray, List.getElem_cons_succ, List.getElem_cons_zero, List.setIfInBounds_toArray, List.set_cons_zero, List.set_cons_succ]
          refine wpAnyH_take (i := 2) (v := ?_) rfl (by kernel_rfl) (by kernel_rfl) (by kernel_rfl) (fun _ _ _ h => h) (Or.inl ⟨by kernel_rfl, ?_⟩) (by assumption) ?_
          rotate_left
          · (intro wx hSw; (try dsimp only at hSw); go_simp; try (with_reducible rfl))
          try simp only [Act.put, List.getElem_toArray, List.getElem_cons_succ, List.getElem_cons_zero, List.setIfInBounds_toArray, List.set_cons_zero, List.set_cons_succ]
          refine wpAnyH_take (i := 4) (v := ?_) rfl (by kernel_rfl) (by kernel_rfl) (by kernel_rfl) (fun _ _ _ h => h) (Or.inl ⟨by kernel_rfl, ?_⟩) (by assumption) ?_
          rotate_left
          · (intro wx hSw; (try dsimp only at hSw); go_simp; try (with_reducible rfl))
          try simp only [Act.put, List.getElem_toArray, List.getElem_cons_succ, List.getElem_cons_zero, List.setIfInBounds_toArray, List.set_cons_zero, List.set_cons_succ]
          refine wpAnyH_take (i := 5) (v := ?_) rfl (by kernel_rfl) (by kernel_rfl) (by kernel_rfl) (fun _ _ _ h => h) (Or.inl ⟨by kernel_rfl, ?_⟩) (by assumption) ?_
          rotate_left
          · (intro wx hSw; (try dsimp only at hSw); go_simp; try (with_reducible rfl))
          try simp only [Act.put, List.getElem_toArray, List.getElem_cons_succ, List.getElem_cons_zero, List.setIfInBounds_toArray, List.set_cons_zero, List.set_cons_succ]
          refine wpAnyH_take (i := 7) (v := ?_) rfl (by kernel_rfl) (by kernel_rfl) (by kernel_rfl) (fun _ _ _ h => h) (Or.inl ⟨by kernel_rfl, ?_⟩) (by assumption) ?_
          rotate_left
          · (intro wx hSw; (try dsimp only at hSw); go_simp; try (with_reducible rfl))
          try simp only [Act.put, List.getElem_toArray, List.getElem_cons_succ, List.getElem_cons_zero, List.setIfInBounds_toArray, List.set_cons_zero, List.set_cons_succ]
          refine wpAnyH_ready (rs := [3, 8]) (by kernel_rfl) (by simp) ?_
          refine (AllReadyH.cons rfl (fun K hK => ?_) (AllReadyH.cons rfl (fun K hK => ?_) AllReadyH.nil))
          · go_simp
            (go_at_call 79; refine (cloneF_any A2 n2 c2 L2 KB.out.l2 _ KB.out.m2 (K0.out.f2.bl I.out.bl)).mono ?_; rintro e wx ⟨v, rfl, hv, hbx⟩)
            obtain ⟨PB, eB, rfl, -⟩ := Owns.shape (show Owns _ _ _ _ _ _ _ from hv)
            have J := Lib.hid (In3.putB I.out hv hbx)
            try (have OC' := Lib.hid (OC.out.bl hbx); clear OC; have OC := OC'; clear OC')
            have hS := Lib.hid (HSH.out _ J.out.bl)
            clear I hv hbx
            have I := J
            clear J
            try (go_wp2_with fail)
            refine hK.out _ _ hS.out (fun hHeld => ?_)
            clear hK K hS
            try simp only [Act.put, List.getElem_toArray, List.getElem_cons_succ, List.getElem_cons_zero, List.setIfInBounds_toArray, List.set_cons_zero, List.set_cons_succ]
            refine wpAnyH_ready (rs := [6, 8]) (by kernel_rfl) (by simp) ?_
            refine (AllReadyH.cons rfl (fun K hK => ?_) (AllReadyH.cons rfl (fun K hK => ?_) AllReadyH.nil))
            · go_simp
              (go_at_call 85; refine (cloneO_any A3 n3 c3 O KB.out.l3 _ KB.out.m3 (K0.out.f3.bl I.out.bl)).mono ?_; rintro e wx ⟨v, rfl, hv, hbx⟩)
              obtain ⟨PC, eC, rfl, -⟩ := Owns.shape (show Owns _ _ _ _ _ _ _ from hv)
              have J := Lib.hid (In3.putC I.out hv hbx)
              try (have OC' := Lib.hid (OC.out.bl hbx); clear OC; have OC := OC'; clear OC')
              have hS := Lib.hid (HSH.out _ J.out.bl)
              clear I hv hbx
              have I := J
              clear J
              try (go_wp2_with fail)
              refine hK.out _ _ hS.out (fun hHeld => ?_)
              clear hK K hS
              try simp only [Act.put, List.getElem_toArray, List.getElem_cons_succ, List.getElem_cons_zero, List.setIfInBounds_toArray, List.set_cons_zero, List.set_cons_succ]
              refine wpAnyH_ready (rs := [8]) (by kernel_rfl) (by simp) ?_
              refine (AllReadyH.cons rfl (fun K hK => ?_) AllReadyH.nil)
              have OC := Lib.hid (OpBx.newOf I.out.bl q a b d 51)
              have J := Lib.hid (I.out.blx ((Bl.refl _).alloc_ (.cells #[.int .i64 q, .string a, .string b, .string d] 51)))
              have hS := Lib.hid (HSH.out _ J.out.bl)
              clear I
              have I := J
              clear J
              go_simp
              refine hK.out _ _ hS.out (fun hHeld => ?_)
              clear hK K hS
              try simp only [Act.put, List.getElem_toArray, List.getElem_cons_succ, List.getElem_cons_zero, List.setIfInBounds_toArray, List.set_cons_zero, List.set_cons_succ]
              refine wpAnyH_ready (rs := [9]) (by kernel_rfl) (by simp) ?_
              refine (AllReadyH.cons rfl (fun K hK => ?_) AllReadyH.nil)
              refine In3.stepSnoc rfl (.tmp 46) (.tmp 48) rfl I.out ⟨q, a, b, d⟩ _ (by simp [Act.eval, Act.put]; try rfl) (by simp [Act.eval, Act.put]; try rfl) hl3 OC.out ?_
              intro PC kC eC wx hJ _ _
              have J := Lib.hid hJ
              have hS := Lib.hid (HSH.out _ J.out.bl)
              clear I hJ
              have I := J
              clear J
              refine hK.out _ _ hS.out (fun hHeld => ?_)
              clear hK K hS
              try simp only [Act.put, List.getElem_toArray, List.getElem_cons_succ, List.getElem_cons_zero, List.setIfInBounds_toArray, List.set_cons_zero, List.set_cons_succ]
              refine wpAnyH_take (i := 10) (v := ?_) rfl (by kernel_rfl) (by kernel_rfl) (by kernel_rfl) (fun _ _ _ h => h) (Or.inl ⟨by kernel_rfl, ?_⟩) (by assumption) ?_
              rotate_left
              · (intro wx hSw; (try dsimp only at hSw); go_simp; try (with_reducible rfl))
              try simp only [Act.put, List.getElem_toArray, List.getElem_cons_succ, List.getElem_cons_zero, List.setIfInBounds_toArray, List.set_cons_zero, List.set_cons_succ]
              refine wpAnyH_ready (rs := [11]) (by kernel_rfl) (by simp) ?_
              refine (AllReadyH.cons rfl (fun K hK => ?_) AllReadyH.nil)
              obtain ⟨z0, z1, z2, f0⟩ := HRS.out _ I.out.bl
              go_simp
              refine hK.out _ _ ?_ (fun hHeld => ?_)
              · simp only [World.cell?_setCell_other _ _ _ _ (show (⟨w.heap.size + 1 + 1, 0, none⟩ : Addr) ≠ ⟨w.heap.size, _, none⟩ from by simp), World.cell?_setCell_other _ _ _ _ (show (⟨w.heap.size + 1 + 1, 1, none⟩ : Addr) ≠ ⟨w.heap.size, _, none⟩ from by simp), World.cell?_setCell_other _ _ _ _ (show (⟨w.heap.size + 1 + 1, 2, none⟩ : Addr) ≠ ⟨w.heap.size, _, none⟩ from by simp), World.cell?_setCell_other _ _ _ _ (show (⟨w.heap.size + 1 + 1, 0, none⟩ : Addr) ≠ ⟨w.heap.size + 1, _, none⟩ from by simp), World.cell?_setCell_other _ _ _ _ (show (⟨w.heap.size + 1 + 1, 1, none⟩ : Addr) ≠ ⟨w.heap.size + 1, _, none⟩ from by simp), World.cell?_setCell_other _ _ _ _ (show (⟨w.heap.size + 1 + 1, 2, none⟩ : Addr) ≠ ⟨w.heap.size + 1, _, none⟩ from by simp)]; exact HSH.out _ I.out.bl
              clear hK K
              try simp only [Act.put, List.getElem_toArray, List.getElem_cons_succ, List.getElem_cons_zero, List.setIfInBounds_toArray, List.set_cons_zero, List.set_cons_succ]
              refine wpAnyH_take (i := 12) (v := ?_) rfl (by kernel_rfl) (by kernel_rfl) (by kernel_rfl) (fun _ _ _ h => h) (Or.inl ⟨by kernel_rfl, ?_⟩) (by assumption) ?_
              rotate_left
              · (intro wx hSw; (try dsimp only at hSw); go_simp; try (with_reducible rfl))
              try simp only [Act.put, List.getElem_toArray, List.getElem_cons_succ, List.getElem_cons_zero, List.setIfInBounds_toArray, List.set_cons_zero, List.set_cons_succ]
              refine wpAnyH_done (by kernel_rfl) ?_ _
              go_wp2
              refine bodyPost_ret (v := .tuple #[.agg #[.slice A' m' c', .slice PB L2.length eB, .slice PC kC eC], .int .i64 0]) (by simp [results, Try.results54, go_sem, z0, z1, z2]) rfl ⟨.slice A' m' c', .slice PB L2.length eB, .slice PC kC eC, by rw [HA.out], ?_⟩
              rw [HA.out]
              exact I.out.fin B0.out (b := w.heap.size + 1 + 1) (by omega) (by omega) _ _ _
            · have OC := Lib.hid (OpBx.newOf I.out.bl q a b d 51)
              have J := Lib.hid (I.out.blx ((Bl.refl _).alloc_ (.cells #[.int .i64 q, .string a, .string b, .string d] 51)))
              have hS := Lib.hid (HSH.out _ J.out.bl)
              clear I
              have I := J
              clear J
              go_simp
              refine hK.out _ _ hS.out (fun hHeld => ?_)
              clear hK K hS
              try simp only [Act.put, List.getElem_toArray, List.getElem_cons_succ, List.getElem_cons_zero, List.setIfInBounds_toArray, List.set_cons_zero, List.set_cons_succ]
              refine wpAnyH_ready (rs := [6]) (by kernel_rfl) (by simp) ?_
              refine (AllReadyH.cons rfl (fun K hK => ?_) AllReadyH.nil)
              go_simp
              (go_at_call 85; refine (cloneO_any A3 n3 c3 O KB.out.l3 _ KB.out.m3 (K0.out.f3.bl I.out.bl)).mono ?_; rintro e wx ⟨v, rfl, hv, hbx⟩)
              obtain ⟨PC, eC, rfl, -⟩ := Owns.shape (show Owns _ _ _ _ _ _ _ from hv)
              have J := Lib.hid (In3.putC I.out hv hbx)
              try (have OC' := Lib.hid (OC.out.bl hbx); clear OC; have OC := OC'; clear OC')
              have hS := Lib.hid (HSH.out _ J.out.bl)
              clear I hv hbx
              have I := J
              clear J
              try (go_wp2_with fail)
              refine hK.out _ _ hS.out (fun hHeld => ?_)
              clear hK K hS
              try simp only [Act.put, List.getElem_toArray, List.getElem_cons_succ, List.getElem_cons_zero, List.setIfInBounds_toArray, List.set_cons_zero, List.set_cons_succ]
              refine wpAnyH_ready (rs := [9]) (by kernel_rfl) (by simp) ?_
              refine (AllReadyH.cons rfl (fun K hK => ?_) AllReadyH.nil)
              refine In3.stepSnoc rfl (.tmp 46) (.tmp 48) rfl I.out ⟨q, a, b, d⟩ _ (by simp [Act.eval, Act.put]; try rfl) (by simp [Act.eval, Act.put]; try rfl) hl3 OC.out ?_
              intro PC kC eC wx hJ _ _
              have J := Lib.hid hJ
              have hS := Lib.hid (HSH.out _ J.out.bl)
              clear I hJ
              have I := J
              clear J
              refine hK.out _ _ hS.out (fun hHeld => ?_)
              clear hK K hS
              try simp only [Act.put, List.getElem_toArray, List.getElem_cons_succ, List.getElem_cons_zero, List.setIfInBounds_toArray, List.set_cons_zero, List.set_cons_succ]
              refine wpAnyH_take (i := 10) (v := ?_) rfl (by kernel_rfl) (by kernel_rfl) (by kernel_rfl) (fun _ _ _ h => h) (Or.inl ⟨by kernel_rfl, ?_⟩) (by assumption) ?_
              rotate_left
              · (intro wx hSw; (try dsimp only at hSw); go_simp; try (with_reducible rfl))
              try simp only [Act.put, List.getElem_toArray, List.getElem_cons_succ, List.getElem_cons_zero, List.setIfInBounds_toArray, List.set_cons_zero, List.set_cons_succ]
              refine wpAnyH_ready (rs := [11]) (by kernel_rfl) (by simp) ?_
              refine (AllReadyH.cons rfl (fun K hK => ?_) AllReadyH.nil)
              obtain ⟨z0, z1, z2, f0⟩ := HRS.out _ I.out.bl
              go_simp
              refine hK.out _ _ ?_ (fun hHeld => ?_)
              · simp only [World.cell?_setCell_other _ _ _ _ (show (⟨w.heap.size + 1 + 1, 0, none⟩ : Addr) ≠ ⟨w.heap.size, _, none⟩ from by simp), World.cell?_setCell_other _ _ _ _ (show (⟨w.heap.size + 1 + 1, 1, none⟩ : Addr) ≠ ⟨w.heap.size, _, none⟩ from by simp), World.cell?_setCell_other _ _ _ _ (show (⟨w.heap.size + 1 + 1, 2, none⟩ : Addr) ≠ ⟨w.heap.size, _, none⟩ from by simp), World.cell?_setCell_other _ _ _ _ (show (⟨w.heap.size + 1 + 1, 0, none⟩ : Addr) ≠ ⟨w.heap.size + 1, _, none⟩ from by simp), World.cell?_setCell_other _ _ _ _ (show (⟨w.heap.size + 1 + 1, 1, none⟩ : Addr) ≠ ⟨w.heap.size + 1, _, none⟩ from by simp), World.cell?_setCell_other _ _ _ _ (show (⟨w.heap.size + 1 + 1, 2, none⟩ : Addr) ≠ ⟨w.heap.size + 1, _, none⟩ from by simp)]; exact HSH.out _ I.out.bl
              clear hK K
              try simp only [Act.put, List.getElem_toArray, List.getElem_cons_succ, List.getElem_cons_zero, List.setIfInBounds_toArray, List.set_cons_zero, List.set_cons_succ]
              refine wpAnyH_take (i := 12) (v := ?_) rfl (by kernel_rfl) (by kernel_rfl) (by kernel_rfl) (fun _ _ _ h => h) (Or.inl ⟨by kernel_rfl, ?_⟩) (by assumption) ?_
              rotate_left
              · (intro wx hSw; (try dsimp only at hSw); go_simp; try (with_reducible rfl))
              try simp only [Act.put, List.getElem_toArray, List.getElem_cons_succ, List.getElem_cons_zero, List.setIfInBounds_toArray, List.set_cons_zero, List.set_cons_succ]
              refine wpAnyH_done (by kernel_rfl) ?_ _
              go_wp2
              refine bodyPost_ret (v := .tuple #[.agg #[.slice A' m' c', .slice PB L2.length eB, .slice PC kC eC], .int .i64 0]) (by simp [results, Try.results54, go_sem, z0, z1, z2]) rfl ⟨.slice A' m' c', .slice PB L2.length eB, .slice PC kC eC, by rw [HA.out], ?_⟩
              rw [HA.out]
              exact I.out.fin B0.out (b := w.heap.size + 1 + 1) (by omega) (by omega) _ _ _
          · have OC := Lib.hid (OpBx.newOf I.out.bl q a b d 51)
            have J := Lib.hid (I.out.blx ((Bl.refl _).alloc_ (.cells #[.int .i64 q, .string a, .string b, .string d] 51)))
            have hS := Lib.hid (HSH.out _ J.out.bl)
            clear I
            have I := J
            clear J
            go_simp
            refine hK.out _ _ hS.out (fun hHeld => ?_)
            clear hK K hS
            try simp only [Act.put, List.getElem_toArray, List.getElem_cons_succ, List.getElem_cons_zero, List.setIfInBounds_toArray, List.set_cons_zero, List.set_cons_succ]
            refine wpAnyH_ready (rs := [3]) (by kernel_rfl) (by simp) ?_
            refine (AllReadyH.cons rfl (fun K hK => ?_) AllReadyH.nil)
            go_simp
            (go_at_call 79; refine (cloneF_any A2 n2 c2 L2 KB.out.l2 _ KB.out.m2 (K0.out.f2.bl I.out.bl)).mono ?_; rintro e wx ⟨v, rfl, hv, hbx⟩)
            obtain ⟨PB, eB, rfl, -⟩ := Owns.shape (show Owns _ _ _ _ _ _ _ from hv)
            have J := Lib.hid (In3.putB I.out hv hbx)
            try (have OC' := Lib.hid (OC.out.bl hbx); clear OC; have OC := OC'; clear OC')
            have hS := Lib.hid (HSH.out _ J.out.bl)
            clear I hv hbx
            have I := J
            clear J
            try (go_wp2_with fail)
            refine hK.out _ _ hS.out (fun hHeld => ?_)
            clear hK K hS
            try simp only [Act.put, List.getElem_toArray, List.getElem_cons_succ, List.getElem_cons_zero, List.setIfInBounds_toArray, List.set_cons_zero, List.set_cons_succ]
            refine wpAnyH_ready (rs := [6]) (by kernel_rfl) (by simp) ?_
            refine (AllReadyH.cons rfl (fun K hK => ?_) AllReadyH.nil)
            go_simp
            (go_at_call 85; refine (cloneO_any A3 n3 c3 O KB.out.l3 _ KB.out.m3 (K0.out.f3.bl I.out.bl)).mono ?_; rintro e wx ⟨v, rfl, hv, hbx⟩)
            obtain ⟨PC, eC, rfl, -⟩ := Owns.shape (show Owns _ _ _ _ _ _ _ from hv)
            have J := Lib.hid (In3.putC I.out hv hbx)
            try (have OC' := Lib.hid (OC.out.bl hbx); clear OC; have OC := OC'; clear OC')
            have hS := Lib.hid (HSH.out _ J.out.bl)
            clear I hv hbx
            have I := J
            clear J
            try (go_wp2_with fail)
            refine hK.out _ _ hS.out (fun hHeld => ?_)
            clear hK K hS
            try simp only [Act.put, List.getElem_toArray, List.getElem_cons_succ, List.getElem_cons_zero, List.setIfInBounds_toArray, List.set_cons_zero, List.set_cons_succ]
            refine wpAnyH_ready (rs := [9]) (by kernel_rfl) (by simp) ?_
            refine (AllReadyH.cons rfl (fun K hK => ?_) AllReadyH.nil)
            refine In3.stepSnoc rfl (.tmp 46) (.tmp 48) rfl I.out ⟨q, a, b, d⟩ _ (by simp [Act.eval, Act.put]; try rfl) (by simp [Act.eval, Act.put]; try rfl) hl3 OC.out ?_
            intro PC kC eC wx hJ _ _
            have J := Lib.hid hJ
            have hS := Lib.hid (HSH.out _ J.out.bl)
            clear I hJ
            have I := J
            clear J
            refine hK.out _ _ hS.out (fun hHeld => ?_)
            clear hK K hS
            try simp only [Act.put, List.getElem_toArray, List.getElem_cons_succ, List.getElem_cons_zero, List.setIfInBounds_toArray, List.set_cons_zero, List.set_cons_succ]
            refine wpAnyH_take (i := 10) (v := ?_) rfl (by kernel_rfl) (by kernel_rfl) (by kernel_rfl) (fun _ _ _ h => h) (Or.inl ⟨by kernel_rfl, ?_⟩) (by assumption) ?_
            rotate_left
            · (intro wx hSw; (try dsimp only at hSw); go_simp; try (with_reducible rfl))
            try simp only [Act.put, List.getElem_toArray, List.getElem_cons_succ, List.getElem_cons_zero, List.setIfInBounds_toArray, List.set_cons_zero, List.set_cons_succ]
            refine wpAnyH_ready (rs := [11]) (by kernel_rfl) (by simp) ?_
            refine (AllReadyH.cons rfl (fun K hK => ?_) AllReadyH.nil)
            obtain ⟨z0, z1, z2, f0⟩ := HRS.out _ I.out.bl
            go_simp
            refine hK.out _ _ ?_ (fun hHeld => ?_)
            · simp only [World.cell?_setCell_other _ _ _ _ (show (⟨w.heap.size + 1 + 1, 0, none⟩ : Addr) ≠ ⟨w.heap.size, _, none⟩ from by simp), World.cell?_setCell_other _ _ _ _ (show (⟨w.heap.size + 1 + 1, 1, none⟩ : Addr) ≠ ⟨w.heap.size, _, none⟩ from by simp), World.cell?_setCell_other _ _ _ _ (show (⟨w.heap.size + 1 + 1, 2, none⟩ : Addr) ≠ ⟨w.heap.size, _, none⟩ from by simp), World.cell?_setCell_other _ _ _ _ (show (⟨w.heap.size + 1 + 1, 0, none⟩ : Addr) ≠ ⟨w.heap.size + 1, _, none⟩ from by simp), World.cell?_setCell_other _ _ _ _ (show (⟨w.heap.size + 1 + 1, 1, none⟩ : Addr) ≠ ⟨w.heap.size + 1, _, none⟩ from by simp), World.cell?_setCell_other _ _ _ _ (show (⟨w.heap.size + 1 + 1, 2, none⟩ : Addr) ≠ ⟨w.heap.size + 1, _, none⟩ from by simp)]; exact HSH.out _ I.out.bl
            clear hK K
            try simp only [Act.put, List.getElem_toArray, List.getElem_cons_succ, List.getElem_cons_zero, List.setIfInBounds_toArray, List.set_cons_zero, List.set_cons_succ]
            refine wpAnyH_take (i := 12) (v := ?_) rfl (by kernel_rfl) (by kernel_rfl) (by kernel_rfl) (fun _ _ _ h => h) (Or.inl ⟨by kernel_rfl, ?_⟩) (by assumption) ?_
            rotate_left
            · (intro wx hSw; (try dsimp only at hSw); go_simp; try (with_reducible rfl))
            try simp only [Act.put, List.getElem_toArray, List.getElem_cons_succ, List.getElem_cons_zero, List.setIfInBounds_toArray, List.set_cons_zero, List.set_cons_succ]
            refine wpAnyH_done (by kernel_rfl) ?_ _
            go_wp2
            refine bodyPost_ret (v := .tuple #[.agg #[.slice A' m' c', .slice PB L2.length eB, .slice PC kC eC], .int .i64 0]) (by simp [results, Try.results54, go_sem, z0, z1, z2]) rfl ⟨.slice A' m' c', .slice PB L2.length eB, .slice PC kC eC, by rw [HA.out], ?_⟩
            rw [HA.out]
            exact I.out.fin B0.out (b := w.heap.size + 1 + 1) (by omega) (by omega) _ _ _
        · have HB4 := Lib.hid (show fitsB D = false from by simpa using b4)
          rw [HB4.out]
          clear b4
          go_wp2_with fail
          refine (sameDisk_anyL KB.out _ (KH.out.bl (B0.out.trans_ I4.out))).mono ?_
          rintro e wz ⟨vA, vB, vC, rfl, hIz⟩
          obtain ⟨PA, PB, PC, kA, eA, kB, eB, kC, eC, ⟨rfl, rfl, rfl⟩, -⟩ := hIz.opened'
          have J := Lib.hid hIz
          obtain ⟨z0, z1, z2, z3⟩ := HRS.out _ (I4.out.trans_ hIz.bl)
          have hsz := I4.out.size
          clear hIz
          go_wp2
          refine bodyPost_ret (v := .tuple #[.agg #[.slice PA kA eA, .slice PB kB eB, .slice PC kC eC], .int .i64 4]) (by simp [results, Try.results54, go_sem, z0, z1, z2]) rfl ⟨.slice PA kA eA, .slice PB kB eB, .slice PC kC eC, by rw [show (actD (L1, L2, O) ⟨q, a, b, d⟩).2 = 4 from by unfold actD; rw [if_neg (by rw [HB1.out]; simp), if_neg (by simp only; rw [HB2.out]; simp), if_pos (.inr (by simp only; rw [← HD.out]; exact HB4.out))]], ?_⟩
          rw [show (actD (L1, L2, O) ⟨q, a, b, d⟩).1 = (L1, L2, O) from by unfold actD; rw [if_neg (by rw [HB1.out]; simp), if_neg (by simp only; rw [HB2.out]; simp), if_pos (.inr (by simp only; rw [← HD.out]; exact HB4.out))]]
          exact J.out.fin (B0.out.trans_ I4.out) (b := w.heap.size + 1 + 1) (by omega) (by omega) _ _ _
    · have HB2 := Lib.hid (show foundB L1 ⟨q, a, b, d⟩ = false from by simpa using b2)
      clear b1 b2
      go_enter Try.func54, Try.ntmps54
      go_wp2_with fail
      rw [← hw0]
      refine (opOf_any ⟨q, a, b, d⟩ _).mono ?_
      rintro e w1 ⟨⟨xo, rfl, hxo⟩, hb1⟩
      have I1 := Lib.hid (I0.out.trans_ hb1)
      obtain ⟨x10, x11, x12, y10, y11, y12, y13⟩ := HSH.out _ I1.out
      clear hb1 hw0
      rw [HB1.out]
      have HX := Lib.hid (hxo HB1.out)
      clear hxo
      go_wp2_with fail
      rw [HX.out]
      refine (finds_any A1 n1 c1 L1 KB.out.l1 ⟨q, a, b, d⟩ HB1.out _ (by omega) SO.out (KH.out.f1.bl (B0.out.trans_ I1.out))).mono ?_
      rintro e w2 ⟨rfl, hb2⟩
      have I2 := Lib.hid (I1.out.trans_ hb2)
      clear x10 x11 x12 y10 y11 y12 y13
      obtain ⟨x20, x21, x22, y20, y21, y22, y23⟩ := HSH.out _ I2.out
      clear hb2
      rw [HB2.out]
      go_wp2_with fail
      refine (sameDisk_anyL KB.out _ (KH.out.bl (B0.out.trans_ I2.out))).mono ?_
      rintro e wz ⟨vA, vB, vC, rfl, hIz⟩
      obtain ⟨PA, PB, PC, kA, eA, kB, eB, kC, eC, ⟨rfl, rfl, rfl⟩, -⟩ := hIz.opened'
      have J := Lib.hid hIz
      obtain ⟨z0, z1, z2, z3⟩ := HRS.out _ (I2.out.trans_ hIz.bl)
      have hsz := I2.out.size
      clear hIz
      go_wp2
      refine bodyPost_ret (v := .tuple #[.agg #[.slice PA kA eA, .slice PB kB eB, .slice PC kC eC], .int .i64 3]) (by simp [results, Try.results54, go_sem, z0, z1, z2]) rfl ⟨.slice PA kA eA, .slice PB kB eB, .slice PC kC eC, by rw [show (actD (L1, L2, O) ⟨q, a, b, d⟩).2 = 3 from by unfold actD; rw [if_neg (by rw [HB1.out]; simp), if_pos (by simp only; exact HB2.out)]], ?_⟩
      rw [show (actD (L1, L2, O) ⟨q, a, b, d⟩).1 = (L1, L2, O) from by unfold actD; rw [if_neg (by rw [HB1.out]; simp), if_pos (by simp only; exact HB2.out)]]
      exact J.out.fin (B0.out.trans_ I2.out) (b := w.heap.size + 1 + 1) (by omega) (by omega) _ _ _
  · have HB1 := Lib.hid (show formB ⟨q, a, b, d⟩ = false from by simpa using b1)
    clear b1
    go_enter Try.func54, Try.ntmps54
    go_wp2_with fail
    rw [← hw0]
    refine (opOf_any ⟨q, a, b, d⟩ _).mono ?_
    rintro e w1 ⟨⟨xo, rfl, hxo⟩, hb1⟩
    have I1 := Lib.hid (I0.out.trans_ hb1)
    obtain ⟨x10, x11, x12, y10, y11, y12, y13⟩ := HSH.out _ I1.out
    clear hb1 hw0
    rw [HB1.out]
    clear hxo
    go_wp2_with fail
    refine (sameDisk_anyL KB.out _ (KH.out.bl (B0.out.trans_ I1.out))).mono ?_
    rintro e wz ⟨vA, vB, vC, rfl, hIz⟩
    obtain ⟨PA, PB, PC, kA, eA, kB, eB, kC, eC, ⟨rfl, rfl, rfl⟩, -⟩ := hIz.opened'
    have J := Lib.hid hIz
    obtain ⟨z0, z1, z2, z3⟩ := HRS.out _ (I1.out.trans_ hIz.bl)
    have hsz := I1.out.size
    clear hIz
    go_wp2
    refine bodyPost_ret (v := .tuple #[.agg #[.slice PA kA eA, .slice PB kB eB, .slice PC kC eC], .int .i64 2]) (by simp [results, Try.results54, go_sem, z0, z1, z2]) rfl ⟨.slice PA kA eA, .slice PB kB eB, .slice PC kC eC, by rw [show (actD (L1, L2, O) ⟨q, a, b, d⟩).2 = 2 from by unfold actD; rw [if_pos HB1.out]], ?_⟩
    rw [show (actD (L1, L2, O) ⟨q, a, b, d⟩).1 = (L1, L2, O) from by unfold actD; rw [if_pos HB1.out]]
    exact J.out.fin (B0.out.trans_ I1.out) (b := w.heap.size + 1 + 1) (by omega) (by omega) _ _ _

end Go.Proofs.Ytgfmgmcpfefmkaa
