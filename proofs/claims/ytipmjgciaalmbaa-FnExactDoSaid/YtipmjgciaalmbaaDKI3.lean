/-
  What is proved here: the program's copy of files, and files without one. No conditions beyond those that each theorem states.
-/
import Derived.Test.YtipmjgciaalmbaaDKI2
import Derived.Test.YtipmjgciaalmbaaDKC
set_option linter.unusedSimpArgs false
set_option linter.unusedVariables false
namespace Go.Proofs.Ytipmjgciaalmbaa
open Go.RowKit

set_option maxRecDepth 100000 in
set_option maxHeartbeats 1000000 in
theorem cloneF_any (A : Option Addr) (n c : Nat) (L : List Fl) (hn : n = L.length) (w : World) (hm : n ≤ 1048576) (H1 : FilesAt w w.heap.size A L) :
    Calls Try.prog 101 #[.slice A n c] w (FilesNew L w) := by
  have K1 := Lib.hid H1
  have HN := Lib.hid hn
  have qT : ∀ (w : World) (a : Option Addr) (n c n' c' : Nat), (binOp .eql 28 (.slice a n c) (.slice none n' c')).run Try.prog w = .ok (.bool a.isNone) w := fun w a n c n' c' => Lib.run_eql_slice_nil w _ _ a n c n' c' Try.underlying28
  clear H1 hn
  cases A with
  | none =>
    have hL : L = [] := by
      cases L with
      | nil => rfl
      | cons f r =>
        obtain ⟨g, off, e, _⟩ := K1.out.cell (by simp)
        cases e
    subst hL
    go_enter Try.func101, Try.ntmps101
    go_wp2
    go_ret
    exact ⟨_, rfl, Owns.nil_ _ _ _ _, Bl.refl w⟩
  | some a =>
    go_enter Try.func101, Try.ntmps101
    go_wp2_with (at_builtin; refine wp_copy_File rfl (.tmp 5) (.tmp 6) rfl (w.alloc (.cells #[] 89)) w.heap.size _ (some a) n c L rfl rfl (World.ownsRow_made (base := w.heap.size) (e := 89) (size := 2) w #[] 0 (Nat.le_refl _) (by unfold maxLen; omega) rfl) (by simp) HN.out (by omega) (K1.out.bl (Bl.alloc_ (Bl.refl _) _)) ?_)
    intro v' w' hv' hb'
    have V := Lib.hid hv'
    have B2 := Lib.hid (hb' w ((Bl.refl w).alloc_ _) (Nat.le_refl _))
    clear hv' hb'
    go_wp2
    go_ret
    exact ⟨_, rfl, V.out, B2.out⟩

/-- The function value that asks for the name in block b. -/
def delV (b : Nat) : Value := .func (.func 122) #[] #[.pointer (some ⟨b, 0, none⟩)]
set_option maxHeartbeats 400000 in
theorem delPred_any (f : Fl) (nm : ByteArray) (b : Nat) (w : World) (hc : w.cell? ⟨b, 0, none⟩ = some (.string nm)) :
    Calls Try.prog 122 #[.agg #[.string f.1, .string f.2], .pointer (some ⟨b, 0, none⟩)] w fun e w' => e = .returned (.bool (sameB f.1 nm)) ∧ Bl w w' := by
  obtain ⟨x, y⟩ := f
  show Calls Try.prog 122 #[.agg #[.string x, .string y], .pointer (some ⟨b, 0, none⟩)] w _
  have hb := World.block_lt_of_cell? _ _ hc
  have h2 : ∀ o, (w.alloc o).cell? ⟨b, 0, none⟩ = some (.string nm) := fun o => by rw [World.cell?_alloc_lt w o _ hb]; exact hc
  have h3 := h2 (.cells #[.string x, .string y] 89)
  go_enter Try.func122, Try.ntmps122
  go_wp2
  go_ret
  exact ⟨rfl, (by repeat' (first | exact Bl.refl _ | with_reducible assumption | with_reducible refine Bl.drew_ ?_ | with_reducible refine Bl.drewN_ ?_ _ | with_reducible refine Bl.alloc_ ?_ _ | with_reducible refine Bl.trans_ ?_ (by assumption) | with_reducible refine Bl.trans_ ?_ (And.left (by assumption))))⟩

/-- The first file of that name; -1: there is none. -/
def FirstI (L : List Fl) (nm : ByteArray) (i : Int) : Prop :=
  (∃ k : Nat, i = (k : Int) ∧ ∃ hk : k < L.length, sameB L[k].1 nm = true ∧ ∀ j (hj : j < k), sameB (L[j]'(by omega)).1 nm = false) ∨ (i = -1 ∧ ∀ j (hj : j < L.length), sameB L[j].1 nm = false)
set_option maxRecDepth 100000 in
set_option maxHeartbeats 1000000 in
theorem indexDel_any (A : Option Addr) (n c : Nat) (L : List Fl) (hn : n = L.length) (nm : ByteArray) (b : Nat) (w : World) (hm : n ≤ 1048576) (H1 : FilesAt w w.heap.size A L) (hb : w.cell? ⟨b, 0, none⟩ = some (.string nm)) :
    Calls Try.prog 138 #[.slice A n c, .func (.func 122) #[] #[.pointer (some ⟨b, 0, none⟩)]] w fun e w' => (∃ i : Int, e = .returned (.int .i64 i) ∧ FirstI L nm i) ∧ Bl w w' := by
  have K1 := Lib.hid H1
  have HN := Lib.hid hn
  have HB := Lib.hid (show ∀ wx, Bl w wx → wx.cell? ⟨b, 0, none⟩ = some (.string nm) from fun wx h => ((bcell h).1 _ _ (World.block_lt_of_cell? _ _ hb)).trans hb)
  clear H1 hn hb
  go_enter Try.func138, Try.ntmps138
  go_wp2
  go_loopw [8] (fun i wr => ∃ k : Nat, k ≤ n ∧ i = .int .i64 k ∧ Hid (∀ j (hj : j < L.length), j < k → sameB L[j].1 nm = false) ∧ Bl w wr) (fun i _ => n - (intOf i).toNat)
  case atStart => exact ⟨0, by omega, rfl, Lib.hid (fun j _ h => absurd h (by omega)), Bl.refl w⟩
  case round =>
    obtain ⟨k, hk, rfl, HO, hbl⟩ := hrel
    have BW := Lib.hid hbl
    by_cases hlt : k < n
    · have hkl : k < L.length := by have := HN.out; omega
      obtain ⟨g1, o1, rfl, hg1, hc1⟩ := K1.out.cell (by omega)
      obtain ⟨p1, p2⟩ := hc1 k hkl
      rw [← (bcell hbl).1 _ _ hg1] at p1 p2
      obtain ⟨f, hf⟩ : ∃ f, f = L[k] := ⟨_, rfl⟩
      rw [← hf] at p1 p2
      have HF := Lib.hid hf
      have i0 : (0 : Int) ≤ (k : Int) := by omega
      have i1 : (k : Int) < (n : Int) := by omega
      clear hc1 hf hbl
      go_wp2_with fail
      refine (delPred_any f nm b _ (HB.out _ BW.out)).mono ?_
      rintro e w1 ⟨rfl, hb1⟩
      have B1 := Lib.hid (BW.out.trans_ hb1)
      by_cases e : sameB f.1 nm = true
      · have E := Lib.hid e
        rw [e]
        go_wp2
        go_ret
        exact ⟨⟨k, rfl, .inl ⟨k, rfl, hkl, by rw [← HF.out]; exact E.out, fun j hj => HO.out j (by omega) hj⟩⟩, B1.out⟩
      · have e0 : sameB f.1 nm = false := by simpa using e
        have E := Lib.hid e0
        rw [e0]
        clear e e0
        go_wp2
        go_roundw
        case rel =>
          refine ⟨k + 1, by omega, by go_num, Lib.hid fun j hj h => ?_, B1.out⟩
          rcases Nat.lt_or_ge j k with h' | h'
          · exact HO.out j hj h'
          · obtain rfl : j = k := by omega
            rw [← HF.out]; exact E.out
        case measure => simp [intOf]; omega
    · go_wp2
      go_ret
      exact ⟨⟨-1, rfl, .inr ⟨rfl, fun j hj => HO.out j hj (by have := HN.out; omega)⟩⟩, hbl⟩

theorem cut_none {L : List Fl} {nm : ByteArray} (h : ∀ j (hj : j < L.length), sameB L[j].1 nm = false) : cutL L nm = L := by
  unfold cutL
  rw [List.filter_eq_self]
  intro f hf
  obtain ⟨j, hj, rfl⟩ := List.getElem_of_mem hf
  rw [h j hj]; rfl
/-- What has been done of a list: the first i of M are what is left of the first j of L. -/
def CutSt (L M : List Fl) (nm : ByteArray) (i j : Nat) : Prop := M.length = L.length ∧ M.take i = cutL (L.take j) nm ∧ M.drop j = L.drop j ∧ i < j ∧ j ≤ L.length
theorem CutSt.first {L : List Fl} {nm : ByteArray} {k : Nat} (hk : k < L.length) (h1 : sameB L[k].1 nm = true) (h2 : ∀ j (hj : j < k), sameB (L[j]'(by omega)).1 nm = false) : CutSt L L nm k (k + 1) := by
  refine ⟨rfl, ?_, rfl, by omega, by omega⟩
  rw [List.take_succ_eq_append_getElem hk]
  have e : cutL (L.take k) nm = L.take k := cut_none fun j hj => by
    rw [List.getElem_take]
    exact h2 j (by rw [List.length_take] at hj; omega)
  unfold cutL at e ⊢
  rw [List.filter_append, e, List.filter_cons, h1]
  simp
theorem CutSt.at_ {L M : List Fl} {nm : ByteArray} {i j : Nat} (h : CutSt L M nm i j) (hj : j < L.length) (hM : j < M.length) : M[j] = L[j] := by
  have h3 := h.2.2.1
  have e1 : (M.drop j)[0]? = (L.drop j)[0]? := by rw [h3]
  rw [List.getElem?_drop, List.getElem?_drop, Nat.add_zero, List.getElem?_eq_getElem hM, List.getElem?_eq_getElem hj] at e1
  injection e1
theorem drop_next {α : Type} {M L : List α} {j : Nat} (h : M.drop j = L.drop j) : M.drop (j + 1) = L.drop (j + 1) := by
  rw [← List.drop_drop, ← List.drop_drop, h]
theorem CutSt.skip {L M : List Fl} {nm : ByteArray} {i j : Nat} (h : CutSt L M nm i j) (hj : j < L.length) (h1 : sameB L[j].1 nm = true) : CutSt L M nm i (j + 1) := by
  obtain ⟨a, b, c, d, e⟩ := h
  refine ⟨a, ?_, drop_next c, by omega, by omega⟩
  rw [List.take_succ_eq_append_getElem hj, b]
  unfold cutL
  rw [List.filter_append, List.filter_cons, h1]
  simp
theorem CutSt.keep {L M : List Fl} {nm : ByteArray} {i j : Nat} (h : CutSt L M nm i j) (hj : j < L.length) (h1 : sameB L[j].1 nm = false) : CutSt L (M.set i L[j]) nm (i + 1) (j + 1) := by
  obtain ⟨a, b, c, d, e⟩ := h
  refine ⟨by rw [List.length_set, a], ?_, ?_, by omega, by omega⟩
  · rw [List.take_succ_eq_append_getElem (by rw [List.length_set]; omega), List.getElem_set_self, List.take_set, List.set_eq_of_length_le (by rw [List.length_take]; omega), b, List.take_succ_eq_append_getElem hj]
    unfold cutL
    rw [List.filter_append, List.filter_cons, h1]
    simp
  · rw [List.drop_set_of_lt (by omega)]
    exact drop_next c

set_option maxRecDepth 100000 in
set_option maxHeartbeats 4000000 in
theorem deleteF_any (W : World) (v : Value) (L : List Fl) (nm : ByteArray) (b : Nat) (w : World) (hm : L.length ≤ 1048576) (hW : Bl W w) (H1 : OwnF w W.heap.size v L) (hb : w.cell? ⟨b, 0, none⟩ = some (.string nm)) (hbv : ∀ g, v.ownBlock = some g → b ≠ g) :
    Calls Try.prog 121 #[v, .func (.func 122) #[] #[.pointer (some ⟨b, 0, none⟩)]] w fun e w' => (∃ v', e = .returned v' ∧ OwnF w' W.heap.size v' (cutL L nm)) ∧ Bl W w' := by
  obtain ⟨A, c, rfl, hc, hA, hgA⟩ := own_shapeF H1
  have OW := Lib.hid H1
  have FA := Lib.hid hA
  have BW := Lib.hid hW
  have HBC := Lib.hid hb
  have HBV := Lib.hid hbv
  obtain ⟨n, hn⟩ : ∃ n, n = L.length := ⟨_, rfl⟩
  rw [← hn] at OW hc hm HBV ⊢
  have HN := Lib.hid hn
  clear H1 hA hW hb hbv hn
  go_enter Try.func121, Try.ntmps121
  go_wp2_with fail
  refine (indexDel_any A n c L HN.out nm b _ (by omega) FA.out HBC.out).mono ?_
  rintro e w1 ⟨⟨i, rfl, hi⟩, hb1⟩
  have B1 := Lib.hid (BW.out.trans_ hb1)
  have O1 := Lib.hid (Owns.bl (show Owns _ _ _ _ _ _ _ from OW.out) hb1)
  rcases hi with ⟨k, rfl, hk, hk1, hk2⟩ | ⟨rfl, hh⟩
  · have ST := Lib.hid (CutSt.first hk hk1 hk2)
    obtain ⟨g, off, hAe, hgl, -⟩ := FA.out.cell (by omega)
    have hshape := Owns.shape (show Owns _ _ _ _ _ _ _ from OW.out)
    obtain ⟨A', c', heq, -, -, -, h3⟩ := hshape
    obtain ⟨g', hA', hgB, hgl', -, -⟩ := h3 (by omega)
    injection heq with heq1 heq2 heq3
    subst heq1
    subst hA'
    clear hAe hk1 hk2 hgl heq3 heq2
    have hbg : b ≠ g' := HBV.out g' rfl
    have hbw : b < w1.heap.size := Nat.lt_of_lt_of_le (World.block_lt_of_cell? _ _ HBC.out) hb1.size
    have HB1 := Lib.hid (((bcell hb1).1 _ _ (World.block_lt_of_cell? _ _ HBC.out)).trans HBC.out)
    have kn : k < n := by have := HN.out; omega
    have O1' := Lib.hid (show OwnF w1 W.heap.size (.slice (some ⟨g', 0, none⟩) n c) L from O1.out)
    have k1 : ((k : Int) == -1) = false := by simp
    clear O1 hb1
    go_wp2
    go_loopw [5, 6] (fun x y wr => ∃ (i j : Nat) (M : List Fl), i < j ∧ j ≤ n ∧ x = .int .i64 (i : Int) ∧ y = .int .i64 (j : Int) ∧ Hid (CutSt L M nm i j) ∧ OwnF wr W.heap.size (.slice (some ⟨g', 0, none⟩) n c) M ∧ wr.cell? ⟨b, 0, none⟩ = some (.string nm) ∧ Bl W wr) (fun _ y _ => n - (intOf y).toNat)
    case atStart => exact ⟨k, k + 1, L, by omega, by omega, rfl, by go_num, ST, O1'.out, HB1.out, B1.out⟩
    case round =>
      obtain ⟨i, j, M, hij, hjn, rfl, rfl, HS, hown, hcb, hbl⟩ := hrel
      have O := Lib.hid hown
      have BL := Lib.hid hbl
      have CB := Lib.hid hcb
      have hMl : M.length = n := by rw [HS.out.1, HN.out]
      have hi0 : (0 : Int) ≤ (i : Int) := by omega
      have hj0 : (0 : Int) ≤ (j : Int) := by omega
      have hin : (i : Int) < (n : Int) := by omega
      by_cases hlt : j < n
      · have hjL : j < L.length := by have := HN.out; omega
        have hjM : j < M.length := by omega
        obtain ⟨Am, cm, hme, hcm, hAm, -⟩ := own_shapeF hown
        injection hme with hme1 hme2 hme3
        subst hme1
        obtain ⟨g1, o1, hge, hgs, hc1⟩ := hAm.cell (by omega)
        injection hge with hge
        injection hge with hge1 hge2 hge3
        subst hge1; subst hge2
        obtain ⟨p1, p2⟩ := hc1 j hjM
        obtain ⟨q1, q2⟩ := hc1 i (by omega)
        rw [HS.out.at_ hjL hjM] at p1 p2
        obtain ⟨f, hf⟩ : ∃ f, f = L[j] := ⟨_, rfl⟩
        rw [← hf] at p1 p2
        have HF := Lib.hid hf
        rw [Nat.zero_add] at p1 p2 q1 q2
        have jn : (j : Int) < (n : Int) := by omega
        have hfr : ∀ o, wr.frozen? ⟨g', o, none⟩ = false := fun o => World.ownsRow.frozenAt (show wr.ownsRow W.heap.size 89 2 (.slice (some ⟨g', 0, none⟩) n c) n (csE encF M) from by
          have h := hown
          unfold OwnF Owns at h
          rw [hMl] at h
          exact h) o
        have FR := Lib.hid (show ∀ wx, Bl wr wx → (wx.cell? ⟨g', i * 2, none⟩ = some (.string M[i].1) ∧ wx.cell? ⟨g', i * 2 + 1, none⟩ = some (.string M[i].2)) ∧ ∀ o, wx.frozen? ⟨g', o, none⟩ = false from fun wx hb =>
          ⟨⟨((bcell hb).1 _ _ hgs).trans q1, ((bcell hb).1 _ _ hgs).trans q2⟩, fun o => ((bcell hb).2 _ _ hgs).trans (hfr o)⟩)
        have hbs : b < wr.heap.size := World.block_lt_of_cell? _ _ hcb
        clear hf hc1 hAm hown hbl hme2 hme3 hcm q1 q2 hfr hcb
        go_wp2_with fail
        refine (delPred_any f nm b _ (((bcell (Bl.alloc_ (Bl.refl wr) _)).1 _ _ hbs).trans CB.out)).mono ?_
        rintro e w2 ⟨rfl, hb2⟩
        obtain ⟨z0, z1⟩ := box2 hb2
        have HB2 := Lib.hid ((Bl.alloc_ (Bl.refl wr) _).trans_ hb2)
        have O2 := Lib.hid (show OwnF w2 W.heap.size (.slice (some ⟨g', 0, none⟩) n c) M from Owns.bl (show Owns _ _ _ _ _ _ _ from O.out) HB2.out)
        have C2 := Lib.hid (((bcell HB2.out).1 _ _ hbs).trans CB.out)
        clear hb2
        by_cases e : sameB f.1 nm = true
        · have E := Lib.hid e
          rw [e]
          go_wp2
          go_roundw
          case rel =>
            exact ⟨i, j + 1, M, by omega, by omega, rfl, by go_num, Lib.hid (HS.out.skip hjL (by rw [← HF.out]; exact E.out)), O2.out, C2.out, BL.out.trans_ HB2.out⟩
          case measure => simp [intOf]; omega
        · have e0 : sameB f.1 nm = false := by simpa using e
          have E := Lib.hid e0
          rw [e0]
          obtain ⟨⟨y1, y2⟩, y0⟩ := FR.out _ HB2.out
          have y3 := y0 (i * 2)
          have y4 := y0 (i * 2 + 1)
          clear e e0 y0
          go_wp2
          go_roundw
          case rel =>
            refine ⟨i + 1, j + 1, M.set i f, by omega, by omega, by go_num, by go_num, Lib.hid ?_, own_setF hMl.symm O2.out i f, ?_, Bl.set_ (Bl.set_ (BL.out.trans_ HB2.out) hgB _) hgB _⟩
            · rw [HF.out]
              exact HS.out.keep hjL (by rw [← HF.out]; exact E.out)
            · rw [World.cell?_setCell_other _ _ _ _ (fun e => hbg (by injection e with e1; exact e1.symm)), World.cell?_setCell_other _ _ _ _ (fun e => hbg (by injection e with e1; exact e1.symm))]
              exact C2.out
          case measure => simp [intOf]; omega
      · obtain rfl : j = n := by omega
        obtain ⟨hs1, hs2, -, -, -⟩ := HS.out
        have hci : ¬ c = i := by omega
        have HL := Lib.hid (show M.take i = cutL L nm from by rw [hs2, List.take_of_length_le (by have := HN.out; omega)])
        clear hown hs1 hs2 hbl hcb
        obtain ⟨w2, hr, hw2, hg2⟩ := clear_ownF (c := c - i) O.out hij 0
        have V2 := Lib.hid hw2
        have G2 := Lib.hid (BL.out.grown_ hg2 (fun g hg => by injection hg with hg; rw [← hg]; exact hgB))
        clear hw2 hg2
        go_wp2
        go_ret
        exact ⟨⟨_, rfl, by rw [← HL.out]; exact V2.out⟩, G2.out⟩
  · have HC := Lib.hid (cut_none hh)
    go_wp2
    go_ret
    exact ⟨⟨_, rfl, by rw [HC.out]; exact O1.out⟩, B1.out⟩

set_option maxRecDepth 100000 in
set_option maxHeartbeats 1000000 in
theorem without_any (A : Option Addr) (n c : Nat) (L : List Fl) (hn : n = L.length) (nm : ByteArray) (w : World) (hm : n ≤ 1048576) (H1 : FilesAt w w.heap.size A L) :
    Calls Try.prog 100 #[.slice A n c, .string nm] w (FilesNew (cutL L nm) w) := by
  have K1 := Lib.hid H1
  have HN := Lib.hid hn
  clear H1 hn
  go_enter Try.func100, Try.ntmps100
  go_wp2_with fail
  refine (cloneF_any A n c L HN.out _ (by omega) (K1.out.bl (by repeat' (first | exact Bl.refl _ | with_reducible assumption | with_reducible refine Bl.drew_ ?_ | with_reducible refine Bl.drewN_ ?_ _ | with_reducible refine Bl.alloc_ ?_ _ | with_reducible refine Bl.trans_ ?_ (by assumption) | with_reducible refine Bl.trans_ ?_ (And.left (by assumption)))))).mono ?_
  rintro e w1 ⟨v, rfl, hv, hb1⟩
  have hq := box1 hb1
  have V := Lib.hid (show OwnF w1 w.heap.size v L from hv.low (by simp))
  have B1 := Lib.hid ((Bl.alloc_ (Bl.refl w) _).trans_ hb1)
  have hne : ∀ g, v.ownBlock = some g → w.heap.size ≠ g := fun g hg => by
    have := (Owns.lt (show Owns _ _ _ _ _ _ _ from hv) g hg).1
    simp at this
    omega
  clear hv hb1
  go_wp2_with fail
  refine (deleteF_any w v L nm w.heap.size _ (by have := HN.out; omega) B1.out V.out hq hne).mono ?_
  rintro e w2 ⟨⟨v2, rfl, hv2⟩, hb2⟩
  have V2 := Lib.hid hv2
  clear hv2
  go_wp2
  go_ret
  exact ⟨_, rfl, V2.out, hb2⟩

end Go.Proofs.Ytipmjgciaalmbaa
