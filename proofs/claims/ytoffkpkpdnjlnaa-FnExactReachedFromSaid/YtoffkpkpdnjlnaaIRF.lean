/-
  What is proved here: the code's search that marks each node that is reached. No conditions beyond those that each theorem states.
-/
import Derived.Test.YtoffkpkpdnjlnaaPG1
import Derived.Test.YtoffkpkpdnjlnaaX1
import Derived.Test.YtoffkpkpdnjlnaaNF1
set_option linter.unusedSimpArgs false
set_option linter.unusedVariables false
namespace Go.Proofs.Ytoffkpkpdnjlnaa
open Go.RowKit

/-- The marks lie in an array of 24. -/
structure BoolsAt (w : World) (b : Nat) (F : List Bool) : Prop where
  len : F.length = 24
  lt : b < w.heap.size
  cell : ∀ i (h : i < F.length), w.cell? ⟨b, i, none⟩ = some (.bool F[i])
  free : ∀ i : Nat, i < 24 → w.frozen? ⟨b, i, none⟩ = false
theorem BoolsAt.turn {w w' : World} {b : Nat} {F : List Bool} (h : BoolsAt w b F) {S : Nat → Prop} (k : Turn S w w') (hS : ¬ S b) : BoolsAt w' b F :=
  ⟨h.len, Nat.lt_of_lt_of_le h.lt k.size, fun i hi => (k.cells h.lt hS i).1.trans (h.cell i hi), fun i hi => (k.cells h.lt hS i).2.trans (h.free i hi)⟩
theorem BoolsAt.bl {w w' : World} {b : Nat} {F : List Bool} (h : BoolsAt w b F) (k : Bl w w') : BoolsAt w' b F := h.turn (Turn.of_bl (S := fun _ => False) k) id
theorem BoolsAt.set {w : World} {b : Nat} {F : List Bool} (h : BoolsAt w b F) (u : Nat) : BoolsAt (w.setCell ⟨b, u, none⟩ (.bool true)) b (F.set u true) := by
  refine ⟨by rw [List.length_set]; exact h.len, by simpa using h.lt, fun i hi => ?_, fun i hi => by rw [World.frozen?_setCell]; exact h.free i hi⟩
  have hi' : i < F.length := by rw [List.length_set] at hi; exact hi
  rw [List.getElem_set]
  by_cases e : u = i
  · subst e
    rw [World.cell?_setCell_same' _ _ _ (by rw [h.cell _ hi']; rfl), if_pos rfl]
  · rw [World.cell?_setCell_other _ _ _ _ (by intro e'; injection e' with _ e2; exact e e2), h.cell i hi', if_neg e]
/-- What the search has beside its marks. -/
structure RIn (w : World) (rb gb fb : Nat) (N : Int) (A : Option Addr) (n c : Nat) (L : List Arc3) : Prop where
  g0 : w.cell? ⟨gb, 0, none⟩ = some (.int .i64 N)
  g1 : w.cell? ⟨gb, 1, none⟩ = some (.slice A n c)
  f0 : w.cell? ⟨fb, 0, none⟩ = some (.func (.func 129) #[] #[.pointer (some ⟨rb, 0, none⟩), .pointer (some ⟨gb, 0, none⟩), .pointer (some ⟨fb, 0, none⟩)])
  arcs : ArcsAt w w.heap.size A L
  ne : gb ≠ rb ∧ fb ≠ rb ∧ (0 < L.length → blockOf A ≠ some rb)
theorem RIn.turn {w w' : World} {rb gb fb : Nat} {N : Int} {A : Option Addr} {n c : Nat} {L : List Arc3} (h : RIn w rb gb fb N A n c L) (k : Turn (fun i => i = rb) w w') : RIn w' rb gb fb N A n c L :=
  ⟨(k.cell (World.block_lt_of_cell? _ _ h.g0) h.ne.1 0).trans h.g0, (k.cell (World.block_lt_of_cell? _ _ h.g1) h.ne.1 1).trans h.g1, (k.cell (World.block_lt_of_cell? _ _ h.f0) h.ne.2.1 0).trans h.f0,
    (h.arcs.turn (Nat.le_refl _) k (fun h0 g e => fun e2 => h.ne.2.2 h0 (by rw [e, e2]))).more k.size, h.ne⟩

set_option maxRecDepth 100000 in
set_option maxHeartbeats 8000000 in
theorem goTo_any (N s : Int) (A : Option Addr) (n c : Nat) (L : List Arc3) (hn : n = L.length) (hc : n ≤ c) (hm : n ≤ 1048576) (ho : okB N L = true) (h0 : 0 ≤ s) (h1 : s < N) (rb gb fb : Nat) :
    ∀ (m : Nat) (F : List Bool) (v : Nat) (w : World), falses F < m → (v : Int) < N → 0 ≤ dAt (distL N L s) v → BoolsAt w rb F → RIn w rb gb fb N A n c L →
      Calls Try.prog 129 #[.int .i64 (v : Int), .pointer (some ⟨rb, 0, none⟩), .pointer (some ⟨gb, 0, none⟩), .pointer (some ⟨fb, 0, none⟩)] w fun e w' =>
        e = .returned (.tuple #[]) ∧ ∃ F', BoolsAt w' rb F' ∧ Grow L (distL N L s) F F' ∧ bT F' (v : Int) = true ∧ Turn (fun i => i = rb) w w' := by
  have HN := Lib.hid hn
  have HO := Lib.hid ho
  have hN24 := (okB_elim ho).2.1
  have HD := Lib.hid (distL_is (s := s) (arcsIn_of_ok ho) hN24 h0 h1)
  obtain ⟨D, hD⟩ : ∃ D, D = distL N L s := ⟨_, rfl⟩
  rw [← hD] at HD ⊢
  clear hD hn ho
  intro m
  induction m with
  | zero => intro F v w hf; omega
  | succ m ih =>
    have IH := Lib.hid ih
    clear ih
    intro F v w hf hv hd hB hI
    have BB := Lib.hid hB
    have II := Lib.hid hI
    have hv24 : v < 24 := by omega
    have p0 := BB.out.cell v (by rw [BB.out.len]; exact hv24)
    have p1 := BB.out.free v hv24
    have v0 : (0 : Int) ≤ (v : Int) := by omega
    have v1 : (v : Int) < 24 := by omega
    have EB := Lib.hid (show bT F (v : Int) = F[v]'(by rw [BB.out.len]; exact hv24) from by unfold bT; simp [List.getD_eq_getElem?_getD, BB.out.len, hv24])
    obtain ⟨g0, g1, f0, -, ne1, ne2, -⟩ := hI
    have hlt := BB.out.lt
    clear hB
    cases hb : F[v]'(by rw [BB.out.len]; exact hv24) with
    | true =>
      rw [hb] at p0 EB
      go_enter Try.func129, Try.ntmps129
      go_wp2
      ((try simp only [Exit.inBlock, Exit.then]); refine bodyPost_ret (results_none rfl _ _ _) rfl ?_)
      exact ⟨rfl, F, BB.out, Grow.refl _ _ _, EB.out, Turn.refl _ _⟩
    | false =>
      rw [hb] at p0 EB
      have FS := Lib.hid (falses_set BB.out.len hv24 EB.out)
      have B1 := Lib.hid (BB.out.set v)
      obtain ⟨w1, hw1⟩ : ∃ w1, w1 = w.setCell ⟨rb, v, none⟩ (.bool true) := ⟨_, rfl⟩
      have T1 := Lib.hid (show Turn (fun i => i = rb) w w1 from by rw [hw1]; exact Turn.set (p := ⟨rb, v, none⟩) (Turn.refl (fun i => i = rb) _) (.inl rfl) _)
      have I1 := Lib.hid (II.out.turn T1.out)
      rw [← hw1] at B1
      have HW1 := Lib.hid hw1
      clear hw1
      go_enter Try.func129, Try.ntmps129
      go_wp2_with fail
      rw [← HW1.out]
      have hbo := (okB_elim HO.out).2.2.2.1
      refine (arcsFrom_any N v A n c L HN.out _ hm hc (sorted_of_ok HO.out) (fun a ha => (arcsIn_of_ok HO.out a ha).2.2.1) (by omega) (by omega) I1.out.arcs).mono ?_
      rintro e w2 ⟨A', c', rfl, hc', ha', hbk, hb2⟩
      have HA := Lib.hid ha'
      have BK := Lib.hid hbk
      have s12 := hb2.size
      have T2 := Lib.hid (T1.out.bl hb2)
      have B2 := Lib.hid (B1.out.bl hb2)
      have I2 := Lib.hid (I1.out.turn (Turn.of_bl (S := fun i => i = rb) hb2))
      obtain ⟨M, hM⟩ : ∃ M, M = fromL (v : Int) L := ⟨_, rfl⟩
      rw [← hM] at hc' HA ⊢
      have HMM := Lib.hid hM
      obtain ⟨ml, hml⟩ : ∃ ml, ml = M.length := ⟨_, rfl⟩
      rw [← hml] at hc' ⊢
      have HML := Lib.hid hml
      have hml2 : ml ≤ 1048576 := by rw [hml, hM]; exact Nat.le_trans (List.length_filter_le _ _) (by rw [← HN.out]; exact hm)
      clear ha' hbk hb2 hM hml p0 p1 g0 g1 f0
      go_wp2_with fail
      go_loopw [16] (fun i wr => ∃ (j : Nat) (G : List Bool), j ≤ ml ∧ i = .int .i64 j ∧ BoolsAt wr rb G ∧ Hid (Grow L D (F.set v true) G) ∧ Hid (∀ t (h : t < M.length), t < j → bT G M[t].2.1 = true) ∧ Turn (fun i => i = rb) w2 wr) (fun i _ => ml - (intOf i).toNat)
      case atStart => exact ⟨0, F.set v true, by omega, rfl, B2.out, Lib.hid (Grow.refl _ _ _), Lib.hid (fun t h h' => absurd h' (by omega)), Turn.refl _ _⟩
      case round =>
        obtain ⟨j, G, hj, rfl, hBj, GR, DN, hT⟩ := hrel
        have BJ := Lib.hid hBj
        have TJ := Lib.hid hT
        have IJ := Lib.hid (I2.out.turn hT)
        have f0 := IJ.out.f0
        have hfb := World.block_lt_of_cell? _ _ f0
        simp only at hfb
        have sj := hT.size
        clear hBj hT
        by_cases hlt2 : j < ml
        · have hjl : j < M.length := by have := HML.out; omega
          obtain ⟨g1, o1, rfl, hg1, hc1⟩ := HA.out (by omega)
          obtain ⟨p1, p2, p3⟩ := hc1 j hjl
          have hgr : ¬ g1 = rb := fun e => by
            have h := I2.out.ne.2.2 (by
              have h9 : 0 < (fromL (v : Int) L).length := by rw [← HMM.out]; omega
              have := List.length_filter_le (fun a : Arc3 => a.1 == (v : Int)) L
              unfold fromL at h9
              omega)
            exact h (BK.out.symm.trans (by rw [← e]; rfl))
          rw [← TJ.out.cell (Nat.lt_of_lt_of_le hg1 s12) hgr] at p1 p2 p3
          have hmem : M[j] ∈ fromL (v : Int) L := by rw [← HMM.out]; exact List.getElem_mem _
          have hmL := List.mem_filter.1 hmem
          have hin := arcsIn_of_ok HO.out M[j] hmL.1
          have hsrc : M[j].1 = (v : Int) := by simpa using hmL.2
          have hdst := (HD.out.arc M[j] hmL.1 (by rw [hsrc]; exact hd)).1
          have DST := Lib.hid hdst
          generalize hx : M[j].1 = x at p1
          generalize hz : M[j].2.2 = z at p3
          obtain ⟨y, hy⟩ : ∃ y : Nat, M[j].2.1 = (y : Int) := ⟨M[j].2.1.toNat, by omega⟩
          have HY := Lib.hid hy
          rw [hy] at p2
          have hyN : (y : Int) < N := by omega
          have hyD : 0 ≤ dAt D (y : Int) := by rw [← hy]; exact hdst
          have hfl : falses G < m := by
            have h1 := falses_mono GR.out.mono
            have h2 := FS.out
            omega
          have i0 : (0 : Int) ≤ (j : Int) := by omega
          have i1 : (j : Int) < (ml : Int) := by omega
          clear hmem hmL hin hsrc hdst hx hz hy hc1
          go_wp2_with fail
          refine (IH.out G y _ hfl hyN hyD (BJ.out.bl (Bl.alloc_ (Bl.refl _) _)) (IJ.out.turn (Turn.of_bl (Bl.alloc_ (Bl.refl _) _)))).mono ?_
          rintro e w4 ⟨rfl, G', hB', hG', ht', hT'⟩
          have BP := Lib.hid hB'
          have GP := Lib.hid hG'
          have TP := Lib.hid (TJ.out.trans ((Turn.of_bl (S := fun i => i = rb) (Bl.alloc_ (Bl.refl _) _)).trans hT' (fun _ _ h => h)) (fun _ _ h => h))
          have TT := Lib.hid ht'
          clear hB' hG' hT' ht' p1 p2 p3 f0
          go_wp2
          go_roundw
          case rel =>
            refine ⟨j + 1, G', by omega, by go_num, BP.out, Lib.hid (Grow.trans (arcsIn_of_ok HO.out) GR.out GP.out), Lib.hid (fun t h ht => ?_), TP.out⟩
            rcases Nat.lt_or_ge t j with h' | h'
            · have hin : 0 ≤ M[t].2.1 := (arcsIn_of_ok HO.out M[t] (List.mem_filter.1 (by rw [← show M = L.filter _ from HMM.out]; exact List.getElem_mem _)).1).2.2.1
              exact GP.out.mono _ hin (DN.out t h h')
            · obtain rfl : t = j := by omega
              rw [HY.out]
              exact TT.out
          case measure => simp [intOf]; omega
        · go_wp2
          go_end0
          have hall : ∀ a ∈ L, a.1 = (v : Int) → bT G a.2.1 = true := fun a ha e => by
            have hmem : a ∈ M := by rw [HMM.out]; exact List.mem_filter.2 ⟨ha, by simpa using e⟩
            obtain ⟨t, ht, rfl⟩ := List.mem_iff_getElem.1 hmem
            exact DN.out t ht (by have := HML.out; omega)
          obtain ⟨k1, k2⟩ := Grow.node (arcsIn_of_ok HO.out) BB.out.len hv24 hd GR.out hall
          exact ⟨rfl, G, BJ.out, k1, k2, T2.out.trans TJ.out (fun _ _ h => h)⟩

end Go.Proofs.Ytoffkpkpdnjlnaa
