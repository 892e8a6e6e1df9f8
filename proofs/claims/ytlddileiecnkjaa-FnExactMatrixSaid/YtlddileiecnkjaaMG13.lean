/-
  What is proved here: the iterator over the rows of a table of distances tells just these, each in new memory; the code's table of distances; toInt64S makes new memory that can be marked; arcs that are marked hold the marks, and nothing else has turned. No conditions beyond those that each theorem states.
-/
import Derived.Test.YtlddileiecnkjaaMG12
import Derived.Test.YtlddileiecnkjaaMG11
import Derived.Test.YtlddileiecnkjaaMG02
import Derived.Test.YtlddileiecnkjaaMG04
set_option linter.unusedSimpArgs false
set_option linter.unusedVariables false
namespace Go.Proofs.Ytlddileiecnkjaa
open Go.RowKit Go.Shelf
attribute [local go_sem] Oper.semAt_some

/-- What the iterator reads. -/
structure MIn (w : World) (fb gb tb q : Nat) (A : Option Addr) (n c : Nat) (L : List Arc3) (AF : Option Addr) (kF cF : Nat) (F : List Int) (AT : Option Addr) (kT cT : Nat) (T : List Int) : Prop where
  from_ : w.cell? ⟨fb, 0, none⟩ = some (.slice AF kF cF)
  size : w.cell? ⟨gb, 0, none⟩ = some (.int .i64 (q : Int))
  list : w.cell? ⟨gb, 1, none⟩ = some (.slice A n c)
  to_ : w.cell? ⟨tb, 0, none⟩ = some (.slice AT kT cT)
  arcs : ArcsAt w w.heap.size A L
  nf : IntsAt w w.heap.size AF F
  nt : IntsAt w w.heap.size AT T
def mBlocks (fb gb tb : Nat) (A : Option Addr) (L : List Arc3) (AF : Option Addr) (F : List Int) (AT : Option Addr) (T : List Int) (i : Nat) : Prop :=
  i = fb ∨ i = gb ∨ i = tb ∨ (0 < L.length ∧ blockOf A = some i) ∨ (0 < F.length ∧ blockOf AF = some i) ∨ (0 < T.length ∧ blockOf AT = some i)
section
variable {w w' : World} {fb gb tb q : Nat} {A : Option Addr} {n c : Nat} {L : List Arc3} {AF : Option Addr} {kF cF : Nat} {F : List Int} {AT : Option Addr} {kT cT : Nat} {T : List Int}
theorem intsAt_turn {B : Nat} {A : Option Addr} {V : List Int} {S : Nat → Prop} (h : IntsAt w B A V) (hB : B ≤ w.heap.size) (k : Turn S w w') (hS : 0 < V.length → ∀ g, blockOf A = some g → ¬ S g) : IntsAt w' B A V := fun hp => by
  have hp' : 0 < V.length := by rw [csI_len] at hp; exact hp
  exact CellsAt.turn h hB k (fun g hg _ => hS hp' g hg) hp
theorem MIn.turn (h : MIn w fb gb tb q A n c L AF kF cF F AT kT cT T) {S : Nat → Prop} (t : Turn S w w') (hS : ∀ i, S i → ¬ mBlocks fb gb tb A L AF F AT T i) : MIn w' fb gb tb q A n c L AF kF cF F AT kT cT T := by
  have c1 := fun o => (t.cells (World.block_lt_of_cell? _ _ h.from_) (fun e => hS _ e (.inl rfl)) o).1
  have c2 := fun o => (t.cells (World.block_lt_of_cell? _ _ h.size) (fun e => hS _ e (.inr (.inl rfl))) o).1
  have c3 := fun o => (t.cells (World.block_lt_of_cell? _ _ h.to_) (fun e => hS _ e (.inr (.inr (.inl rfl)))) o).1
  exact ⟨(c1 0).trans h.from_, (c2 0).trans h.size, (c2 1).trans h.list, (c3 0).trans h.to_,
    (ArcsAt.turn h.arcs (Nat.le_refl _) t (fun h0 g hg e => hS g e (.inr (.inr (.inr (.inl ⟨h0, hg⟩)))))).more t.size,
    (intsAt_turn h.nf (Nat.le_refl _) t (fun h0 g hg e => hS g e (.inr (.inr (.inr (.inr (.inl ⟨h0, hg⟩))))))).more t.size,
    (intsAt_turn h.nt (Nat.le_refl _) t (fun h0 g hg e => hS g e (.inr (.inr (.inr (.inr (.inr ⟨h0, hg⟩))))))).more t.size⟩
theorem MIn.lt (h : MIn w fb gb tb q A n c L AF kF cF F AT kT cT T) {i : Nat} (hi : mBlocks fb gb tb A L AF F AT T i) : i < w.heap.size := by
  rcases hi with rfl | rfl | rfl | ⟨h0, e⟩ | ⟨h0, e⟩ | ⟨h0, e⟩
  · exact World.block_lt_of_cell? _ _ h.from_
  · exact World.block_lt_of_cell? _ _ h.size
  · exact World.block_lt_of_cell? _ _ h.to_
  · obtain ⟨g, off, rfl, hg, -⟩ := h.arcs h0
    have : g = i := by simpa [blockOf] using e
    omega
  · obtain ⟨g, off, rfl, hg, -⟩ := h.nf (by rw [csI_len]; exact h0)
    have : g = i := by simpa [blockOf] using e
    omega
  · obtain ⟨g, off, rfl, hg, -⟩ := h.nt (by rw [csI_len]; exact h0)
    have : g = i := by simpa [blockOf] using e
    omega
end
def encR (x : SlH) : Array Value := #[.agg #[slV x]]
/-- The next row lies in memory that is new. -/
def NextRow (q : Nat) (L : List Arc3) (F T : List Int) (pre : List SlH) (x : SlH) (A W : World) : Prop := ∃ h : pre.length < F.length, OwnN W A.heap.size (slV x) (matRow q L T F[pre.length])
def AllRow (F : List Int) (xs : List SlH) : Prop := xs.length = F.length

set_option maxRecDepth 100000 in
set_option maxHeartbeats 8000000 in
theorem rows_walk (q : Nat) (fb gb tb : Nat) (A : Option Addr) (n c : Nat) (L : List Arc3) (hn : n = L.length) (hc : n ≤ c) (ho : okB (q : Int) L = true) (AF : Option Addr) (kF cF : Nat) (F : List Int) (hF : kF = F.length) (hFn : ∀ v ∈ F, 0 ≤ v ∧ v < (q : Int)) (AT : Option Addr) (kT cT : Nat) (T : List Int) (hT : kT = T.length) (hTn : ∀ v ∈ T, 0 ≤ v ∧ v < (q : Int))
    (hkF : kF ≤ 60) (hkT : kT ≤ 60) (w0 : World) (hI : MIn w0 fb gb tb q A n c L AF kF cF F AT kT cT T) :
    SeqB Try.prog 134 #[.pointer (some ⟨fb, 0, none⟩), .pointer (some ⟨gb, 0, none⟩), .pointer (some ⟨tb, 0, none⟩)] encR (NextRow q L F T) (AllRow F) (mBlocks fb gb tb A L AF F AT T) w0 := by
  intro l J S W hb0 hS hJ hY hJ0
  obtain ⟨i0, hi, hz0, hz1, hz2⟩ := info_parts infoInt
  have I0 := Lib.hid hi
  have I1 := Lib.hid hz0
  have I2 := Lib.hid hz1
  have I3 := Lib.hid hz2
  have HN := Lib.hid hn
  have HO := Lib.hid ho
  have HFL := Lib.hid hF
  have HFN := Lib.hid hFn
  have HTL := Lib.hid hT
  have HTN := Lib.hid hTn
  have HI := Lib.hid (hI.turn (Turn.of_bl (S := fun _ => False) hb0) (fun _ h => h.elim))
  have HS := Lib.hid (show ∀ i, (S i ∨ W.heap.size ≤ i) → ¬ mBlocks fb gb tb A L AF F AT T i from fun i h hm => h.elim (fun h => hS i h hm) (fun h => by have := HI.out.lt hm; omega))
  have HJ := Lib.hid hJ
  have HY := Lib.hid hY
  have HJ0 := Lib.hid hJ0
  have hq24 := (okB_elim ho).2.1
  have q0 := HI.out.from_
  clear hn ho hF hFn hT hTn hI hb0 hS hJ hY hJ0 hi hz0 hz1 hz2
  refine callsIn_of_wp Try.func134 rfl trivial ?_ rfl
  simp only [Try.ntmps134, List.size_toArray, List.length_cons, List.length_nil, Nat.reduceAdd, Nat.reduceSub, Array.replicate_succ, Array.replicate_zero, List.push_toArray, List.append_toArray, List.nil_append, List.cons_append]
  gi_wp2_with fail
  clear q0
  gi_loopw [13] (fun i wr => ∃ (k : Nat) (pre : List SlH), k ≤ kF ∧ i = .int .i64 k ∧ Hid (pre.length = k) ∧ Hid (J pre wr) ∧ Turn (fun i => S i ∨ W.heap.size ≤ i) W wr) (fun i _ => kF - (intOf i).toNat)
  case atStart => exact ⟨0, [], by omega, rfl, Lib.hid rfl, HJ0, Turn.refl _ _⟩
  case round =>
    obtain ⟨k, pre, hk, rfl, HP, J1, hst⟩ := hrel
    have ST := Lib.hid hst
    obtain ⟨wq, rfl⟩ : ∃ x : World, x = wr := ⟨_, rfl⟩
    clear hst
    by_cases hlt : k < kF
    · have hkl : k < F.length := by have := HFL.out; omega
      have in1 := HI.out.turn ST.out HS.out
      obtain ⟨gF, oF, rfl, hgF, hcF⟩ := in1.nf.cell (by omega)
      have p1 := hcF k hkl
      have hsN := HFN.out F[k] (List.getElem_mem hkl)
      have SK := Lib.hid (rfl : F[k] = F[k])
      obtain ⟨s, hs⟩ : ∃ s, s = F[k] := ⟨_, rfl⟩
      rw [← hs] at p1 hsN
      have HSK := Lib.hid hs
      have y0 := in1.size
      have y1 := in1.list
      have IN := Lib.hid in1
      have u0 : (0 : Int) ≤ (k : Int) := by omega
      have u1 : (k : Int) < (kF : Int) := by omega
      clear hcF hs SK in1
      gi_wp2_with fail
      refine ⟨trivial, rfl, CallsIn.mono (callsIn_wide.2 (distances_any q s A n c L HN.out hc HO.out hsN.1 hsN.2 _ IN.out.arcs)) ?_⟩
      rintro e w4 ⟨E, rfl, hE, hEd, hb4⟩
      have EL := Lib.hid hE
      have B4 := Lib.hid hb4
      have ED := Lib.hid (show ∀ u : Nat, u < q → dAt (distL q L s) (u : Int) = E.getD u 0 from fun u hu => by
        rw [← hEd]
        unfold dAt
        simp only [List.getD_eq_getElem?_getD]
        rw [List.getElem?_take, if_pos (by omega)]
        simp [hE, show u < 24 by omega])
      clear hE hEd hb4 p1 y0 y1
      have NS := Lib.hid (NumsAt.stored EL.out (by simp) (there_new w4 114))
      have hbS := Bl.setCells_ w4.heap.size (Nat.le_refl _) (csI E) 0 _ ((Bl.refl w4).alloc_ (.cells #[.int .i64 0, .int .i64 0, .int .i64 0, .int .i64 0, .int .i64 0, .int .i64 0, .int .i64 0, .int .i64 0, .int .i64 0, .int .i64 0, .int .i64 0, .int .i64 0, .int .i64 0, .int .i64 0, .int .i64 0, .int .i64 0, .int .i64 0, .int .i64 0, .int .i64 0, .int .i64 0, .int .i64 0, .int .i64 0, .int .i64 0, .int .i64 0] 114))
      have HBS := Lib.hid hbS
      have tbl := World.block_lt_of_cell? _ _ IN.out.to_
      simp only at tbl
      have tb4 : tb < w4.heap.size := Nat.lt_of_lt_of_le tbl B4.out.size
      have z1 : ((w4.alloc (.cells #[.int .i64 0, .int .i64 0, .int .i64 0, .int .i64 0, .int .i64 0, .int .i64 0, .int .i64 0, .int .i64 0, .int .i64 0, .int .i64 0, .int .i64 0, .int .i64 0, .int .i64 0, .int .i64 0, .int .i64 0, .int .i64 0, .int .i64 0, .int .i64 0, .int .i64 0, .int .i64 0, .int .i64 0, .int .i64 0, .int .i64 0, .int .i64 0] 114)).setCells w4.heap.size 0 (csI E)).cell? ⟨tb, 0, none⟩ = some (.slice AT kT cT) := ((bcell hbS).1 _ _ tb4).trans (((bcell B4.out).1 _ _ tbl).trans IN.out.to_)
      have z2 : tb < ((w4.alloc (.cells #[.int .i64 0, .int .i64 0, .int .i64 0, .int .i64 0, .int .i64 0, .int .i64 0, .int .i64 0, .int .i64 0, .int .i64 0, .int .i64 0, .int .i64 0, .int .i64 0, .int .i64 0, .int .i64 0, .int .i64 0, .int .i64 0, .int .i64 0, .int .i64 0, .int .i64 0, .int .i64 0, .int .i64 0, .int .i64 0, .int .i64 0, .int .i64 0] 114)).setCells w4.heap.size 0 (csI E)).heap.size := Nat.lt_of_lt_of_le tb4 hbS.size
      clear hbS tbl tb4
      gi_wp2_with (refine wpListIn_store_mid rfl 114 (.tmp 7) (.tmp 19) rfl w4.heap.size 0 (csI E).toArray rfl rfl ?c1 ?c2 (csI_one _) ?_)
      case c1 => simpa [csI_len, EL.out] using there_new w4 114
      case c2 => simpa [csI_len, EL.out] using size24
      obtain ⟨w5, hw5⟩ : ∃ w5, w5 = (w4.alloc (.cells #[.int .i64 0, .int .i64 0, .int .i64 0, .int .i64 0, .int .i64 0, .int .i64 0, .int .i64 0, .int .i64 0, .int .i64 0, .int .i64 0, .int .i64 0, .int .i64 0, .int .i64 0, .int .i64 0, .int .i64 0, .int .i64 0, .int .i64 0, .int .i64 0, .int .i64 0, .int .i64 0, .int .i64 0, .int .i64 0, .int .i64 0, .int .i64 0] 114)).setCells w4.heap.size 0 (csI E) := ⟨_, rfl⟩
      have NS5 := Lib.hid (show NumsAt w5 w4.heap.size E from by rw [hw5]; exact NS.out)
      have B5 := Lib.hid (show Bl wq w5 from by rw [hw5]; exact B4.out.trans_ HBS.out)
      rw [← hw5] at z1 z2 ⊢
      clear hw5 NS HBS
      have RX0 := Lib.hid (RX.new w5)
      obtain ⟨rb, hrb⟩ : ∃ rb, rb = w5.heap.size := ⟨_, rfl⟩
      obtain ⟨db, hdb⟩ : ∃ db, db = w4.heap.size := ⟨_, rfl⟩
      rw [← hdb] at NS5 ⊢
      clear hdb
      rw [← hrb] at RX0 ⊢
      clear hrb z1 z2
      gi_loopw [22] (fun kv wr => ∃ (t : Nat) (y : Value), t ≤ kT ∧ kv = .int .i64 t ∧ RX w5 rb y (matRow q L (T.take t) s) wr) (fun kv _ => kT - (intOf kv).toNat)
      case atStart => exact ⟨0, _, by omega, rfl, RX0.out⟩
      case round =>
        obtain ⟨t, y, ht, rfl, hT2⟩ := hrel
        have TT := Lib.hid hT2
        obtain ⟨c0, f0, hrl⟩ := hT2.facts
        have hlo := hT2.lo
        by_cases hlt2 : t < kT
        · have htl : t < T.length := by have := HTL.out; omega
          obtain ⟨gT, oT, rfl, hgT, hcT⟩ := IN.out.nt.cell (by omega)
          have p1 := hcT t htl
          have htN := HTN.out T[t] (List.getElem_mem htl)
          have STT := Lib.hid (matRow_take q L T s htl)
          obtain ⟨z, hz⟩ : ∃ z, z = T[t] := ⟨_, rfl⟩
          rw [← hz] at p1 htN STT
          obtain ⟨u, rfl⟩ : ∃ u : Nat, z = u := ⟨z.toNat, by omega⟩
          have hu24 : u < 24 := by omega
          have huq : u < q := by omega
          have p2 := NS5.out.cell u (by rw [EL.out]; exact hu24)
          rw [ED.out u huq, show E.getD u 0 = E[u]'(by rw [EL.out]; exact hu24) from by simp [EL.out, hu24]] at STT
          obtain ⟨d, hd⟩ : ∃ d, d = E[u]'(by rw [EL.out]; exact hu24) := ⟨_, rfl⟩
          rw [← hd] at p2 STT
          have hlen : (matRow q L (T.take t) s).length ≤ 60 := by rw [matRow_len]; have := List.length_take_le t T; omega
          obtain ⟨V, hV⟩ : ∃ V, V = matRow q L (T.take t) s := ⟨_, rfl⟩
          rw [← hV] at STT hlen TT
          have hdl := NS5.out.lt
          have HSY := Lib.hid (show ∀ wx, Bl w5 wx → wx.cell? ⟨gT, oT + t, none⟩ = some (.int .i64 (u : Int)) ∧ wx.cell? ⟨db, u, none⟩ = some (.int .i64 d) from fun wx hb => ⟨((bcell (B5.out.trans_ hb)).1 _ _ hgT).trans p1, ((bcell hb).1 _ _ hdl).trans p2⟩)
          have v0 : (0 : Int) ≤ (t : Int) := by omega
          have v1 : (t : Int) < (kT : Int) := by omega
          have v2 : (0 : Int) ≤ (u : Int) := by omega
          have v3 : (u : Int) < 24 := by omega
          clear hcT p1 p2 hz hd hV hT2 htN hgT hdl
          have p1r := (HSY.out wr TT.out.bl).1
          gi_wp2_with fail
          refine wpIn_region_held (S := fun wx => wx.cell? ⟨gT, oT + t, none⟩ = some (.int .i64 (u : Int)) ∧ wx.cell? ⟨db, u, none⟩ = some (.int .i64 d)) (by kernel_rfl) ?_ (fun hHeld => ?_)
          · (first | exact HSY.out _ B13.out | exact HSY.out _ (B13.out.set_ TT.out.lo _) | exact HSY.out _ (TT.out.bl.trans_ (by repeat' (first | exact Bl.refl _ | with_reducible assumption | with_reducible refine Bl.drew_ ?_ | with_reducible refine Bl.drewN_ ?_ _ | with_reducible refine Bl.alloc_ ?_ _ | with_reducible refine Bl.trans_ ?_ (by assumption) | with_reducible refine Bl.trans_ ?_ (And.left (by assumption))))))
          refine wpAnyH_take (i := 0) (v := ?_) rfl (by kernel_rfl) (by kernel_rfl) (by kernel_rfl) (fun _ _ _ h => h) (Or.inl ⟨by kernel_rfl, ?_⟩) (by assumption) ?_
          rotate_left
          · (intro wx hSw; (try dsimp only at hSw); go_simp; try (with_reducible rfl))
          try simp only [Act.put, List.getElem_toArray, List.getElem_cons_succ, List.getElem_cons_zero, List.setIfInBounds_toArray, List.set_cons_zero, List.set_cons_succ]
          refine wpAnyH_take (i := 2) (v := ?_) rfl (by kernel_rfl) (by kernel_rfl) (by kernel_rfl) (fun _ _ _ h => h) (Or.inl ⟨by kernel_rfl, ?_⟩) (by assumption) ?_
          rotate_left
          · (intro wx hSw; (try dsimp only at hSw); go_simp; try (with_reducible rfl))
          try simp only [Act.put, List.getElem_toArray, List.getElem_cons_succ, List.getElem_cons_zero, List.setIfInBounds_toArray, List.set_cons_zero, List.set_cons_succ]
          refine wpAnyH_take (i := 3) (v := ?_) rfl (by kernel_rfl) (by kernel_rfl) (by kernel_rfl) (fun _ _ _ h => h) (Or.inl ⟨by kernel_rfl, ?_⟩) (by assumption) ?_
          rotate_left
          · (intro wx hSw; (try dsimp only at hSw); go_simp; try (with_reducible rfl))
          try simp only [Act.put, List.getElem_toArray, List.getElem_cons_succ, List.getElem_cons_zero, List.setIfInBounds_toArray, List.set_cons_zero, List.set_cons_succ]
          refine wpAnyH_take (i := 4) (v := ?_) rfl (by kernel_rfl) (by kernel_rfl) (by kernel_rfl) (fun _ _ _ h => h) (Or.inl ⟨by kernel_rfl, ?_⟩) (by assumption) ?_
          rotate_left
          · (intro wx hSw; (try dsimp only at hSw); go_simp; try (with_reducible rfl))
          try simp only [Act.put, List.getElem_toArray, List.getElem_cons_succ, List.getElem_cons_zero, List.setIfInBounds_toArray, List.set_cons_zero, List.set_cons_succ]
          refine wpAnyH_ready (rs := [1, 5]) (by kernel_rfl) (by simp) ?_
          refine AllReadyH.cons rfl (fun K hK => ?_) (AllReadyH.cons rfl (fun K hK => ?_) AllReadyH.nil)
          focus
            go_simp
            refine hK.out _ _ ?_ (fun hHeld => ?_)
            · (first | exact HSY.out _ B13.out | exact HSY.out _ (B13.out.set_ TT.out.lo _) | exact HSY.out _ (TT.out.bl.trans_ (by repeat' (first | exact Bl.refl _ | with_reducible assumption | with_reducible refine Bl.drew_ ?_ | with_reducible refine Bl.drewN_ ?_ _ | with_reducible refine Bl.alloc_ ?_ _ | with_reducible refine Bl.trans_ ?_ (by assumption) | with_reducible refine Bl.trans_ ?_ (And.left (by assumption))))))
            clear hK K
            try simp only [Act.put, List.getElem_toArray, List.getElem_cons_succ, List.getElem_cons_zero, List.setIfInBounds_toArray, List.set_cons_zero, List.set_cons_succ]
            refine wpAnyH_ready (rs := [5]) (by kernel_rfl) (by simp) ?_
            refine AllReadyH.cons rfl (fun K hK => ?_) AllReadyH.nil
            go_simp
            refine hK.out _ _ ?_ (fun hHeld => ?_)
            · (first | exact HSY.out _ B13.out | exact HSY.out _ (B13.out.set_ TT.out.lo _) | exact HSY.out _ (TT.out.bl.trans_ (by repeat' (first | exact Bl.refl _ | with_reducible assumption | with_reducible refine Bl.drew_ ?_ | with_reducible refine Bl.drewN_ ?_ _ | with_reducible refine Bl.alloc_ ?_ _ | with_reducible refine Bl.trans_ ?_ (by assumption) | with_reducible refine Bl.trans_ ?_ (And.left (by assumption))))))
            clear hK K
            try simp only [Act.put, List.getElem_toArray, List.getElem_cons_succ, List.getElem_cons_zero, List.setIfInBounds_toArray, List.set_cons_zero, List.set_cons_succ]
            refine wpAnyH_ready (rs := [6]) (by kernel_rfl) (by simp) ?_
            refine AllReadyH.cons rfl (fun K hK => ?_) AllReadyH.nil
            refine step_append_own _ rfl (.tmp 27) (.tmp 31) 24 rfl (rb + 1) 2 i0 _ 1 8 Try.underlying24 I0.out I1.out I2.out I3.out rfl (by decide) _ V.length (csI V) rfl (OwnN.bl TT.out.own (by repeat' (first | exact Bl.refl _ | with_reducible assumption | with_reducible refine Bl.drew_ ?_ | with_reducible refine Bl.drewN_ ?_ _ | with_reducible refine Bl.alloc_ ?_ _ | with_reducible refine Bl.trans_ ?_ (by assumption) | with_reducible refine Bl.trans_ ?_ (And.left (by assumption))))) ⟨wr.heap.size, 0, none⟩ 1 1 [.int .i64 d] rfl rfl (new1 _ _ _) (one1 _) (by unfold maxLen; omega) (by omega) (by simp; omega) ?_; intro v13 w13 hown2 hg2; have O2 := Lib.hid (OwnN.snoc (V := V) (x := d) rfl hown2); have U := Lib.hid ((TT.out.bl_ (by repeat' (first | exact Bl.refl _ | with_reducible assumption | with_reducible refine Bl.drew_ ?_ | with_reducible refine Bl.drewN_ ?_ _ | with_reducible refine Bl.alloc_ ?_ _ | with_reducible refine Bl.trans_ ?_ (by assumption) | with_reducible refine Bl.trans_ ?_ (And.left (by assumption))))).app hg2 O2.out); have b00 := (TT.out.bl_ (by repeat' (first | exact Bl.refl _ | with_reducible assumption | with_reducible refine Bl.drew_ ?_ | with_reducible refine Bl.drewN_ ?_ _ | with_reducible refine Bl.alloc_ ?_ _ | with_reducible refine Bl.trans_ ?_ (by assumption) | with_reducible refine Bl.trans_ ?_ (And.left (by assumption))))).grown_ hg2; have B13 := Lib.hid b00.2; obtain ⟨AA, cc, rfl, -, -⟩ := OwnN.shape O2.out; have d0 := b00.1.cell (i := 0) (by omega); have d1 := b00.1.frozen 0; clear hown2 hg2 b00
            refine hK.out _ _ ?_ (fun hHeld => ?_)
            · (first | exact HSY.out _ B13.out | exact HSY.out _ (B13.out.set_ TT.out.lo _) | exact HSY.out _ (TT.out.bl.trans_ (by repeat' (first | exact Bl.refl _ | with_reducible assumption | with_reducible refine Bl.drew_ ?_ | with_reducible refine Bl.drewN_ ?_ _ | with_reducible refine Bl.alloc_ ?_ _ | with_reducible refine Bl.trans_ ?_ (by assumption) | with_reducible refine Bl.trans_ ?_ (And.left (by assumption))))))
            clear hK K
            try simp only [Act.put, List.getElem_toArray, List.getElem_cons_succ, List.getElem_cons_zero, List.setIfInBounds_toArray, List.set_cons_zero, List.set_cons_succ]
            refine wpAnyH_take (i := 7) (v := ?_) rfl (by kernel_rfl) (by kernel_rfl) (by kernel_rfl) (fun _ _ _ h => h) (Or.inl ⟨by kernel_rfl, ?_⟩) (by assumption) ?_
            rotate_left
            · (intro wx hSw; (try dsimp only at hSw); go_simp; try (with_reducible rfl))
            try simp only [Act.put, List.getElem_toArray, List.getElem_cons_succ, List.getElem_cons_zero, List.setIfInBounds_toArray, List.set_cons_zero, List.set_cons_succ]
            refine wpAnyH_ready (rs := [8]) (by kernel_rfl) (by simp) ?_
            refine AllReadyH.cons rfl (fun K hK => ?_) AllReadyH.nil
            go_simp
            refine hK.out _ _ ?_ (fun hHeld => ?_)
            · (first | exact HSY.out _ B13.out | exact HSY.out _ (B13.out.set_ TT.out.lo _) | exact HSY.out _ (TT.out.bl.trans_ (by repeat' (first | exact Bl.refl _ | with_reducible assumption | with_reducible refine Bl.drew_ ?_ | with_reducible refine Bl.drewN_ ?_ _ | with_reducible refine Bl.alloc_ ?_ _ | with_reducible refine Bl.trans_ ?_ (by assumption) | with_reducible refine Bl.trans_ ?_ (And.left (by assumption))))))
            clear hK K
            try simp only [Act.put, List.getElem_toArray, List.getElem_cons_succ, List.getElem_cons_zero, List.setIfInBounds_toArray, List.set_cons_zero, List.set_cons_succ]
            refine wpAnyH_done (by kernel_rfl) ?_ _
          rotate_left
          focus
            go_simp
            refine hK.out _ _ ?_ (fun hHeld => ?_)
            · (first | exact HSY.out _ B13.out | exact HSY.out _ (B13.out.set_ TT.out.lo _) | exact HSY.out _ (TT.out.bl.trans_ (by repeat' (first | exact Bl.refl _ | with_reducible assumption | with_reducible refine Bl.drew_ ?_ | with_reducible refine Bl.drewN_ ?_ _ | with_reducible refine Bl.alloc_ ?_ _ | with_reducible refine Bl.trans_ ?_ (by assumption) | with_reducible refine Bl.trans_ ?_ (And.left (by assumption))))))
            clear hK K
            try simp only [Act.put, List.getElem_toArray, List.getElem_cons_succ, List.getElem_cons_zero, List.setIfInBounds_toArray, List.set_cons_zero, List.set_cons_succ]
            refine wpAnyH_ready (rs := [1]) (by kernel_rfl) (by simp) ?_
            refine AllReadyH.cons rfl (fun K hK => ?_) AllReadyH.nil
            go_simp
            refine hK.out _ _ ?_ (fun hHeld => ?_)
            · (first | exact HSY.out _ B13.out | exact HSY.out _ (B13.out.set_ TT.out.lo _) | exact HSY.out _ (TT.out.bl.trans_ (by repeat' (first | exact Bl.refl _ | with_reducible assumption | with_reducible refine Bl.drew_ ?_ | with_reducible refine Bl.drewN_ ?_ _ | with_reducible refine Bl.alloc_ ?_ _ | with_reducible refine Bl.trans_ ?_ (by assumption) | with_reducible refine Bl.trans_ ?_ (And.left (by assumption))))))
            clear hK K
            try simp only [Act.put, List.getElem_toArray, List.getElem_cons_succ, List.getElem_cons_zero, List.setIfInBounds_toArray, List.set_cons_zero, List.set_cons_succ]
            refine wpAnyH_ready (rs := [6]) (by kernel_rfl) (by simp) ?_
            refine AllReadyH.cons rfl (fun K hK => ?_) AllReadyH.nil
            refine step_append_own _ rfl (.tmp 27) (.tmp 31) 24 rfl (rb + 1) 2 i0 _ 1 8 Try.underlying24 I0.out I1.out I2.out I3.out rfl (by decide) _ V.length (csI V) rfl (OwnN.bl TT.out.own (by repeat' (first | exact Bl.refl _ | with_reducible assumption | with_reducible refine Bl.drew_ ?_ | with_reducible refine Bl.drewN_ ?_ _ | with_reducible refine Bl.alloc_ ?_ _ | with_reducible refine Bl.trans_ ?_ (by assumption) | with_reducible refine Bl.trans_ ?_ (And.left (by assumption))))) ⟨wr.heap.size, 0, none⟩ 1 1 [.int .i64 d] rfl rfl (new1 _ _ _) (one1 _) (by unfold maxLen; omega) (by omega) (by simp; omega) ?_; intro v13 w13 hown2 hg2; have O2 := Lib.hid (OwnN.snoc (V := V) (x := d) rfl hown2); have U := Lib.hid ((TT.out.bl_ (by repeat' (first | exact Bl.refl _ | with_reducible assumption | with_reducible refine Bl.drew_ ?_ | with_reducible refine Bl.drewN_ ?_ _ | with_reducible refine Bl.alloc_ ?_ _ | with_reducible refine Bl.trans_ ?_ (by assumption) | with_reducible refine Bl.trans_ ?_ (And.left (by assumption))))).app hg2 O2.out); have b00 := (TT.out.bl_ (by repeat' (first | exact Bl.refl _ | with_reducible assumption | with_reducible refine Bl.drew_ ?_ | with_reducible refine Bl.drewN_ ?_ _ | with_reducible refine Bl.alloc_ ?_ _ | with_reducible refine Bl.trans_ ?_ (by assumption) | with_reducible refine Bl.trans_ ?_ (And.left (by assumption))))).grown_ hg2; have B13 := Lib.hid b00.2; obtain ⟨AA, cc, rfl, -, -⟩ := OwnN.shape O2.out; have d0 := b00.1.cell (i := 0) (by omega); have d1 := b00.1.frozen 0; clear hown2 hg2 b00
            refine hK.out _ _ ?_ (fun hHeld => ?_)
            · (first | exact HSY.out _ B13.out | exact HSY.out _ (B13.out.set_ TT.out.lo _) | exact HSY.out _ (TT.out.bl.trans_ (by repeat' (first | exact Bl.refl _ | with_reducible assumption | with_reducible refine Bl.drew_ ?_ | with_reducible refine Bl.drewN_ ?_ _ | with_reducible refine Bl.alloc_ ?_ _ | with_reducible refine Bl.trans_ ?_ (by assumption) | with_reducible refine Bl.trans_ ?_ (And.left (by assumption))))))
            clear hK K
            try simp only [Act.put, List.getElem_toArray, List.getElem_cons_succ, List.getElem_cons_zero, List.setIfInBounds_toArray, List.set_cons_zero, List.set_cons_succ]
            refine wpAnyH_take (i := 7) (v := ?_) rfl (by kernel_rfl) (by kernel_rfl) (by kernel_rfl) (fun _ _ _ h => h) (Or.inl ⟨by kernel_rfl, ?_⟩) (by assumption) ?_
            rotate_left
            · (intro wx hSw; (try dsimp only at hSw); go_simp; try (with_reducible rfl))
            try simp only [Act.put, List.getElem_toArray, List.getElem_cons_succ, List.getElem_cons_zero, List.setIfInBounds_toArray, List.set_cons_zero, List.set_cons_succ]
            refine wpAnyH_ready (rs := [8]) (by kernel_rfl) (by simp) ?_
            refine AllReadyH.cons rfl (fun K hK => ?_) AllReadyH.nil
            go_simp
            refine hK.out _ _ ?_ (fun hHeld => ?_)
            · (first | exact HSY.out _ B13.out | exact HSY.out _ (B13.out.set_ TT.out.lo _) | exact HSY.out _ (TT.out.bl.trans_ (by repeat' (first | exact Bl.refl _ | with_reducible assumption | with_reducible refine Bl.drew_ ?_ | with_reducible refine Bl.drewN_ ?_ _ | with_reducible refine Bl.alloc_ ?_ _ | with_reducible refine Bl.trans_ ?_ (by assumption) | with_reducible refine Bl.trans_ ?_ (And.left (by assumption))))))
            clear hK K
            try simp only [Act.put, List.getElem_toArray, List.getElem_cons_succ, List.getElem_cons_zero, List.setIfInBounds_toArray, List.set_cons_zero, List.set_cons_succ]
            refine wpAnyH_done (by kernel_rfl) ?_ _
          rotate_left
          refine NoOut.normal ?_
          all_goals (try refine NoOut.normal ?_)
          all_goals (gi_wp2_with fail; go_roundw)
          all_goals (first | (case measure => (simp [intOf]; omega)) | skip)
          all_goals (have hl2 : (V ++ [d]).length = V.length + 1 := by simp)
          all_goals (rw [hl2] at U)
          all_goals (refine ⟨t + 1, .slice AA (V.length + 1) cc, by omega, by go_num, ?_⟩; rw [STT.out]; exact U.out)
        · obtain rfl : t = kT := by omega
          have HR := Lib.hid (show matRow q L (T.take t) s = matRow q L T s from by rw [List.take_of_length_le (by have := HTL.out; omega)])
          rw [HR.out] at TT hT2
          obtain ⟨A5, c5, rfl, -, -, -, -⟩ := OwnN.shape hT2.own
          obtain ⟨lr, hlr⟩ : ∃ l, l = (matRow q L T s).length := ⟨_, rfl⟩
          rw [← hlr] at c0 TT
          have hNX : NextRow q L F T pre (A5, lr, c5) wq wr := by
            have hp : pre.length < F.length := by have := HP.out; omega
            refine ⟨hp, ?_⟩
            have e : F[pre.length] = s := by rw [HSK.out]; congr 1
            rw [e]
            exact OwnN.low TT.out.own (by have := B5.out.size; omega)
          have BQ : Bl wq wr := B5.out.trans_ TT.out.bl
          obtain ⟨fn, tmps, assign, body, hy, hR⟩ := HY.out pre (A5, lr, c5) wq wr J1.out BQ hNX
          dsimp only [encR, slV] at hy
          have BQ' := Lib.hid BQ
          clear hlr hT2 hNX BQ hlo hrl f0
          gi_wp2_with fail
          refine ⟨rfl, hR.mono ?_⟩
          rintro e W3 ⟨ht3, rfl, hJ3⟩
          have J3 := Lib.hid hJ3
          have T3 := Lib.hid ht3
          clear ht3 hJ3
          gi_wp2_with fail
          go_roundw
          case rel =>
            refine ⟨k + 1, pre ++ [(A5, lr, c5)], by omega, by go_num, Lib.hid (by rw [List.length_append, HP.out]; rfl), J3, ?_⟩
            exact (ST.out.bl BQ'.out).trans T3.out (fun i _ h => h)
          case measure => simp [intOf]; omega
    · obtain rfl : k = kF := by omega
      gi_wp2_with fail
      go_end0
      exact ⟨⟨_, rfl⟩, ST.out, pre, by unfold AllRow; rw [HP.out, HFL.out], J1.out⟩

end Go.Proofs.Ytlddileiecnkjaa

set_option linter.unusedSimpArgs false
set_option linter.unusedVariables false
namespace Go.Proofs.Ytlddileiecnkjaa
open Go.RowKit Go.Shelf
attribute [local go_sem] Oper.semAt_some


set_option maxRecDepth 100000 in
set_option maxHeartbeats 8000000 in
theorem appendRows_any (q : Nat) (fb gb tb : Nat) (A : Option Addr) (n c : Nat) (L : List Arc3) (hn : n = L.length) (hc : n ≤ c) (ho : okB (q : Int) L = true) (AF : Option Addr) (kF cF : Nat) (F : List Int) (hF : kF = F.length) (hFn : ∀ v ∈ F, 0 ≤ v ∧ v < (q : Int)) (AT : Option Addr) (kT cT : Nat) (T : List Int) (hT : kT = T.length) (hTn : ∀ v ∈ T, 0 ≤ v ∧ v < (q : Int))
    (hkF : kF ≤ 60) (hkT : kT ≤ 60) (w : World) (hI : MIn w fb gb tb q A n c L AF kF cF F AT kT cT T) :
    Calls Try.prog 133 #[.slice none 0 0, .func (.func 134) #[] #[.pointer (some ⟨fb, 0, none⟩), .pointer (some ⟨gb, 0, none⟩), .pointer (some ⟨tb, 0, none⟩)]] w (RowsLeft (matR q L F T) w) := by
  obtain ⟨j0, hj, hy0, hy1, hy2⟩ := info_parts infoRow
  have J0 := Lib.hid hj
  have J1 := Lib.hid hy0
  have J2 := Lib.hid hy1
  have J3 := Lib.hid hy2
  have HFL := Lib.hid hF
  have HI := Lib.hid hI
  have RW := Lib.hid (fun w1 h => rows_walk q fb gb tb A n c L hn hc ho AF kF cF F hF hFn AT kT cT T hT hTn hkF hkT w1 h)
  clear hn ho hF hFn hT hTn hI hj hy0 hy1 hy2 hc
  refine (callsIn_wide (n := 0)).1 ?_
  refine callsIn_of_wp_marks Try.func133 rfl trivial ?_ rfl
  simp only [Try.ntmps133, List.size_toArray, List.length_cons, List.length_nil, Nat.reduceAdd, Nat.reduceSub, Array.replicate_succ, Array.replicate_zero, List.push_toArray, List.append_toArray, List.nil_append, List.cons_append]
  gi_wp2_with fail
  obtain ⟨bs, hbs⟩ : ∃ b, b = w.heap.size := ⟨_, rfl⟩
  obtain ⟨w1, hw1⟩ : ∃ x, x = w.alloc (.cells #[.slice none 0 0] 44) := ⟨_, rfl⟩
  have B1 := Lib.hid (show Bl w w1 from by rw [hw1]; exact (Bl.refl w).alloc_ _)
  have s1 : w1.heap.size = bs + 1 := by rw [hw1, hbs]; simp
  have bx := (show w1.cell? ⟨bs, 0, none⟩ = some (.slice none 0 0) ∧ w1.frozen? ⟨bs, 0, none⟩ = false from by rw [hw1, hbs]; exact ⟨by simp [go_sem], by simp [go_sem]⟩)
  have BX := Lib.hid bx
  have hmin := HI.out.turn (Turn.of_bl (S := fun _ => False) B1.out) (fun _ h => h.elim)
  have HM := Lib.hid hmin
  have HLT := Lib.hid (show ∀ i, mBlocks fb gb tb A L AF F AT T i → i < bs from fun i hi => by rw [hbs]; exact HI.out.lt hi)
  rw [← hw1, ← hbs]
  have HW := Lib.hid hbs
  clear hw1 hbs bx
  refine wpIn_rangeB (gf := 134) (lb := #[.pointer (some ⟨fb, 0, none⟩), .pointer (some ⟨gb, 0, none⟩), .pointer (some ⟨tb, 0, none⟩)]) ?e1 ?e2
    (RW.out w1 hmin) (Bl.refl _) (fun i hi => HM.out.lt hi) ?e3
    (fun pre W' => ∃ v, (W'.cell? ⟨bs, 0, none⟩ = some v ∧ W'.frozen? ⟨bs, 0, none⟩ = false) ∧ RowsG W' (w1.heap.size + 2) v pre (matR q L (F.take pre.length) T))
    (fun pre x a W' => ∃ xb v, ∃ z0 z1 z3 z4 z6 z7 z8 z9 z10 z11 z12 : Value, (W'.cell? ⟨bs, 0, none⟩ = some v ∧ W'.frozen? ⟨bs, 0, none⟩ = false) ∧ RowsG W' (w1.heap.size + 2) v pre (matR q L (F.take pre.length) T) ∧
      (w1.heap.size + 2 ≤ xb ∧ W'.cell? ⟨xb, 0, none⟩ = some (slV x)) ∧ (∃ h : pre.length < F.length, OwnN W' (w1.heap.size + 2) (slV x) (matRow q L T F[pre.length])) ∧
      (∀ g, (slV x).ownBlock = some g → v.ownBlock ≠ some g ∧ ∀ j (h : j < pre.length), (slV pre[j]).ownBlock ≠ some g) ∧
      a = { tmps := #[z0, z1, .pointer (some ⟨bs, 0, none⟩), z3, z4, .pointer (some ⟨xb, 0, none⟩), z6, z7, z8, z9, z10, z11, z12], defers := [] })
    (fun i => i = bs) ?hT ?hI ?hM ?h0 ?assign ?body ?hTl ?done
  case e1 => rfl
  case e2 => exact enters_of Try.func134 (by kernel_rfl) rfl
  case e3 => exact fun x => rfl
  case hT => exact fun i hi hm => by have := HLT.out i hm; omega
  case hTl => exact fun i hi => by omega
  case h0 =>
    intro W hW
    refine ⟨_, ⟨((bcell hW).1 _ _ (by omega)).trans BX.out.1, ((bcell hW).2 _ _ (by omega)).trans BX.out.2⟩, ?_⟩
    exact RowsG.nil_ _ _ (Owns.nil_ _ _ _ _)
  case hI =>
    rintro pre X Y ⟨v, ⟨h1, h2⟩, h3⟩ hX ht
    obtain ⟨e1, e2⟩ := ht.cells (show bs < X.heap.size by omega) (by omega) 0
    exact ⟨v, ⟨e1.trans h1, e2.trans h2⟩, h3.turn ht (fun g hg _ => by omega)⟩
  case hM =>
    rintro pre x a X Y ⟨xb, v, z0, z1, z3, z4, z6, z7, z8, z9, z10, z11, z12, ⟨h1, h2⟩, h3, ⟨h4, h5⟩, ⟨h6, h7⟩, h8, he⟩ hX ht
    obtain ⟨e1, e2⟩ := ht.cells (show bs < X.heap.size by omega) (by omega) 0
    have hx := World.block_lt_of_cell? _ _ h5
    exact ⟨xb, v, z0, z1, z3, z4, z6, z7, z8, z9, z10, z11, z12, ⟨e1.trans h1, e2.trans h2⟩, h3.turn ht (fun g hg _ => by omega), ⟨h4, (ht.cells hx (by show ¬ (xb = _); omega) 0).1.trans h5⟩, ⟨h6, Owns.turn h7 ht (fun g hg e => by have := (Owns.lt h7 g hg).1; omega)⟩, h8, he⟩
  case assign =>
    rintro pre ⟨xa, xn, xc⟩ X Y R ⟨v, ⟨h1, h2⟩, h3⟩ hX hXY ⟨hp, hown⟩ hR l
    have HC := Lib.hid h1
    have HC2 := Lib.hid h2
    have H3 := Lib.hid h3
    have HO := Lib.hid hown
    have HR := Lib.hid hR
    have HB := Lib.hid hXY
    clear h1 h2 h3 hown hR hXY
    dsimp only [encR, slV]
    gi_wp2_with fail
    have BN : Bl Y (Y.alloc (.cells #[.slice xa xn xc] 58)) := (by repeat' (first | exact Bl.refl _ | with_reducible assumption | with_reducible refine Bl.drew_ ?_ | with_reducible refine Bl.drewN_ ?_ _ | with_reducible refine Bl.alloc_ ?_ _ | with_reducible refine Bl.trans_ ?_ (by assumption) | with_reducible refine Bl.trans_ ?_ (And.left (by assumption))))
    have hXN := HB.out.trans_ BN
    have sXY := HB.out.size
    refine HR.out _ _ BN ⟨Y.heap.size, v, _, _, _, _, _, _, _, _, _, _, _, ⟨((bcell hXN).1 _ _ (by omega)).trans HC.out, ((bcell hXN).2 _ _ (by omega)).trans HC2.out⟩, H3.out.bl hXN, ⟨by omega, by simp [go_sem, slV]⟩, ⟨hp, Owns.bl (Owns.low HO.out (by omega)) BN⟩, ?_, rfl⟩
    intro g hg
    have h1 := (Owns.lt HO.out g hg).1
    refine ⟨fun h => ?_, fun j hj h => ?_⟩
    · have h2 := Owns.lt H3.out.own g h; omega
    · have h2 := H3.out.lt hj h; omega
  case body =>
    rintro l pre ⟨xa, xn, xc⟩ a₁ X hX ⟨xb, v, z0, z1, z3, z4, z6, z7, z8, z9, z10, z11, z12, ⟨h1, h2⟩, h3, ⟨h4, h5⟩, ⟨hp, h7⟩, h8, rfl⟩
    have STK := Lib.hid (matR_take q L F T hp)
    have hplen : pre.length < 60 := by have := HFL.out; omega
    have hl0 : pre.length = (matR q L (F.take pre.length) T).length := by rw [matR_len, List.length_take]; omega
    have R3 := Lib.hid h3
    have H7 := Lib.hid h7
    have H8 := Lib.hid h8
    obtain ⟨j, hj⟩ : ∃ j, j = pre.length := ⟨_, rfl⟩
    have OC := Lib.hid (show Owns 58 1 X (w1.heap.size + 2) v j (pre.map slV) from by rw [hj]; exact h3.own)
    have HJ := Lib.hid hj
    have hj60 : j < 60 := by omega
    have hxl := World.block_lt_of_cell? _ _ h5
    simp only [slV] at h5 hxl
    have S1 := Lib.hid s1
    have hbX : bs < X.heap.size := by omega
    clear h3 h7 h8 hj hl0 hplen s1
    gi_wp2_with (refine wpListIn_append_any _ rfl (.tmp 8) (.tmp 10) 44 rfl (w1.heap.size + 2) 58 j0 _ 1 24 Try.underlying44 J0.out J1.out J2.out J3.out rfl (by decide) _ j (pre.map slV) rfl (World.ownsRow.alloc OC.out _) (X.heap.size + 1) (some ⟨X.heap.size, 0, none⟩) 1 1 [.slice xa xn xc] rfl ?c0 (by simp [Value.oneCell']) ?c3 ?c4 ?c5 ?_)
    case c0 =>
      refine ⟨rfl, fun _ => ⟨_, rfl, by show X.heap.size < X.heap.size + 1; omega, fun x u hj => ?_⟩⟩
      match x, hj with
      | 0, hj => simp at hj; subst hj; simp [Addr.add, go_sem]
      | (x + 1), hj => simp at hj
    case c3 => unfold maxLen; omega
    case c4 => omega
    case c5 => simp; omega
    intro v' w8 hown' hgrow hwh
    have BA : Bl X (X.alloc (.cells #[.slice xa xn xc] 58)) := Bl.alloc_ (Bl.refl _) _
    have hOwnlt := Owns.lt R3.out.own
    have R8 := Lib.hid (RowsG.snoc (R := matR q L (F.take pre.length) T) (r := matRow q L T F[pre.length]) (x := (xa, xn, xc)) (k := j) (R3.out.bl BA) (Owns.bl H7.out BA) H8.out HJ.out hown' hgrow (by simpa using hwh))
    rw [← STK.out] at R8
    have T8 := Lib.hid (show Turn (fun i => i = bs ∨ w1.heap.size + 2 ≤ i) X w8 from (Turn.of_bl BA).trans (Turn.of_grown (S := fun i => i = bs ∨ w1.heap.size + 2 ≤ i) hgrow (fun g hg => .inr (hOwnlt g hg).1)) (fun i _ h => h))
    have hbo : ∀ o, w8.cell? ⟨bs, o, none⟩ = X.cell? ⟨bs, o, none⟩ ∧ w8.frozen? ⟨bs, o, none⟩ = X.frozen? ⟨bs, o, none⟩ := fun o => by
      obtain ⟨e1, e2⟩ := bcell BA
      have hb : w8.heap[bs]? = (X.alloc (.cells #[.slice xa xn xc] 58)).heap[bs]? := hgrow.block bs (by simp; omega) (fun e => by have := hOwnlt bs e.symm; have := S1.out; omega)
      exact ⟨(World.cell?_of_block (a := ⟨bs, o, none⟩) hb).trans (e1 _ _ (by omega)), (World.frozen?_of_block (a := ⟨bs, o, none⟩) hb).trans (e2 _ _ (by omega))⟩
    obtain ⟨c8, f8⟩ := hbo 0
    rw [h1] at c8
    rw [h2] at f8
    have hwb : ∀ g, v'.ownBlock = some g → w1.heap.size + 2 ≤ g := fun g hg => (Owns.lt R8.out.own g hg).1
    clear hown' hgrow hwh BA hOwnlt hbo hwb
    obtain ⟨Av, cv, ev⟩ := R8.out.slice
    obtain ⟨lv, hlv⟩ : ∃ l, l = (matR (↑q) L (F.take (pre.length + 1)) T).length := ⟨_, rfl⟩
    rw [← hlv] at ev
    clear hlv
    subst ev
    gi_wp2_with fail
    refine ⟨T8.out.set (p := ⟨bs, 0, none⟩) (.inl (.inl rfl)) _, ?_⟩
    exact R8.out.turn (Turn.set (p := ⟨bs, 0, none⟩) (S := fun i => i = bs) (Turn.refl _ _) (.inl rfl) _) (fun g hg _ => by have := S1.out; omega)
  case done =>
    rintro D xs W hD hall ⟨v, ⟨h1, h2⟩, h3⟩ hT hdef
    have H3 := Lib.hid h3
    have HD := Lib.hid hdef
    have HT := Lib.hid hT
    have HA := Lib.hid (show F.take xs.length = F from List.take_of_length_le (by unfold AllRow at hall; omega))
    clear h3 hdef hT hall h2
    gi_wp2_with fail
    refine ⟨by simp, .inl ⟨_, _, rfl, run_takeDeferred HD.out, ?_⟩⟩
    refine ⟨v, by simp [results, Try.results133, go_sem], v, xs, rfl, ?_, ?_⟩
    · have h := H3.out
      rw [HA.out] at h
      exact (h.turn (turn_put (fun i => i = D) W (.deferred none) rfl) (fun g hg _ => by omega)).low (by have := B1.out.size; omega)
    · refine Turn.to_bl (Turn.to_bl B1.out HT.out (fun i hi => ?_)) (turn_put (fun i => i = D) W (.deferred none) rfl) (fun i hi => ?_)
      · have := HW.out; omega
      · have := B1.out.size; omega

set_option maxHeartbeats 2000000 in
theorem collectRows_any (q : Nat) (fb gb tb : Nat) (A : Option Addr) (n c : Nat) (L : List Arc3) (hn : n = L.length) (hc : n ≤ c) (ho : okB (q : Int) L = true) (AF : Option Addr) (kF cF : Nat) (F : List Int) (hF : kF = F.length) (hFn : ∀ v ∈ F, 0 ≤ v ∧ v < (q : Int)) (AT : Option Addr) (kT cT : Nat) (T : List Int) (hT : kT = T.length) (hTn : ∀ v ∈ T, 0 ≤ v ∧ v < (q : Int))
    (hkF : kF ≤ 60) (hkT : kT ≤ 60) (w : World) (hI : MIn w fb gb tb q A n c L AF kF cF F AT kT cT T) :
    Calls Try.prog 92 #[.func (.func 134) #[] #[.pointer (some ⟨fb, 0, none⟩), .pointer (some ⟨gb, 0, none⟩), .pointer (some ⟨tb, 0, none⟩)]] w (RowsLeft (matR q L F T) w) := by
  have C := Lib.hid (appendRows_any q fb gb tb A n c L hn hc ho AF kF cF F hF hFn AT kT cT T hT hTn hkF hkT w hI)
  clear hn hc ho hF hFn hT hTn hI
  go_enter Try.func92, Try.ntmps92
  go_wp2_with fail
  refine C.out.mono ?_
  rintro e w1 ⟨v, G, rfl, hv, hb⟩
  have V := Lib.hid hv
  have B := Lib.hid hb
  clear hv hb
  go_wp2
  go_ret
  exact ⟨v, G, rfl, V.out, B.out⟩

set_option maxHeartbeats 2000000 in
theorem rowsTo_any (N : Int) (A : Option Addr) (n c : Nat) (AF : Option Addr) (kF cF : Nat) (AT : Option Addr) (kT cT : Nat) (w : World) :
    Calls Try.prog 93 #[.agg #[.int .i64 N, .slice A n c], .slice AF kF cF, .slice AT kT cT] w fun e w' =>
      e = .returned (.func (.func 134) #[] #[.pointer (some ⟨w.heap.size + 1, 0, none⟩), .pointer (some ⟨w.heap.size, 0, none⟩), .pointer (some ⟨w.heap.size + 2, 0, none⟩)]) ∧
      w' = ((w.alloc (.cells #[.int .i64 N, .slice A n c] 33)).alloc (.cells #[.slice AF kF cF] 24)).alloc (.cells #[.slice AT kT cT] 24) := by
  go_enter Try.func93, Try.ntmps93
  go_wp2
  go_ret
  exact ⟨rfl, rfl⟩

set_option maxRecDepth 100000 in
set_option maxHeartbeats 4000000 in
theorem implMatrix_any (N : Int) (A : Option Addr) (n c : Nat) (L : List Arc3) (hn : n = L.length) (hc : n ≤ c) (AF : Option Addr) (kF cF : Nat) (F : List Int) (hF : kF = F.length) (AT : Option Addr) (kT cT : Nat) (T : List Int) (hT : kT = T.length) (w : World) (hm : n ≤ 1048576) (hkF : kF ≤ 1048576) (hkT : kT ≤ 1048576)
    (H1 : ArcsAt w w.heap.size A L) (H2 : IntsAt w w.heap.size AF F) (H3 : IntsAt w w.heap.size AT T) :
    Calls Try.prog 29 #[.agg #[.int .i64 N, .slice A n c], .slice AF kF cF, .slice AT kT cT] w (RowsLeft (matL N L F T) w) := by
  have K1 := Lib.hid H1
  have K2 := Lib.hid H2
  have K3 := Lib.hid H3
  have HN := Lib.hid hn
  have HF := Lib.hid hF
  have HT := Lib.hid hT
  clear H1 H2 H3 hn hF hT
  have nil_ : ∀ wx, Bl w wx → matL N L F T = [] → RowsLeft (matL N L F T) w (.returned (.slice none 0 0)) wx := fun wx hb e => by
    rw [e]; exact ⟨_, [], rfl, RowsG.nil_ _ _ (Owns.nil_ _ _ _ _), hb⟩
  have NIL := Lib.hid nil_
  clear nil_
  by_cases h60 : (60 : Int) < (kF : Int)
  · have HM := Lib.hid (show matL N L F T = [] from matL_no (by have := HF.out; unfold matB nodesB; rw [decide_eq_false (show ¬ F.length ≤ 60 by omega)]; simp))
    go_enter Try.func29, Try.ntmps29
    go_wp2
    go_ret
    exact NIL.out _ (by repeat' (first | exact Bl.refl _ | with_reducible assumption | with_reducible refine Bl.drew_ ?_ | with_reducible refine Bl.drewN_ ?_ _ | with_reducible refine Bl.alloc_ ?_ _ | with_reducible refine Bl.trans_ ?_ (by assumption) | with_reducible refine Bl.trans_ ?_ (And.left (by assumption)))) HM.out
  · have b1 : decide ((60 : Int) < (kF : Int)) = false := by simpa using h60
    by_cases h61 : (60 : Int) < (kT : Int)
    · have HM := Lib.hid (show matL N L F T = [] from matL_no (by have := HT.out; unfold matB nodesB; rw [decide_eq_false (show ¬ T.length ≤ 60 by omega)]; simp))
      have b2 : decide ((60 : Int) < (kT : Int)) = true := by simpa using h61
      go_enter Try.func29, Try.ntmps29
      go_wp2
      go_ret
      exact NIL.out _ (by repeat' (first | exact Bl.refl _ | with_reducible assumption | with_reducible refine Bl.drew_ ?_ | with_reducible refine Bl.drewN_ ?_ _ | with_reducible refine Bl.alloc_ ?_ _ | with_reducible refine Bl.trans_ ?_ (by assumption) | with_reducible refine Bl.trans_ ?_ (And.left (by assumption)))) HM.out
    · have b2 : decide ((60 : Int) < (kT : Int)) = false := by simpa using h61
      have hB : ∀ V : List Int, V.length ≤ 60 → hasB N L V = (okB N L && nodesB N V) := fun V hV => by unfold hasB nodesB; rw [decide_eq_true hV, Bool.and_true]
      have HBF := Lib.hid (hB F (by have := HF.out; omega))
      have HBT := Lib.hid (hB T (by have := HT.out; omega))
      clear hB
      cases hbF : hasB N L F with
      | false =>
        have HX := Lib.hid hbF
        have HM := Lib.hid (show matL N L F T = [] from matL_no (by
          rw [HBF.out] at hbF
          unfold matB
          cases h : okB N L
          · rfl
          · rw [h, Bool.true_and] at hbF
            rw [hbF]; simp))
        clear hbF
        go_enter Try.func29, Try.ntmps29
        go_wp2_with fail
        refine (hasNodes_any N A n c L HN.out AF kF cF F HF.out _ (by omega) hkF (K1.out.bl (by repeat' (first | exact Bl.refl _ | with_reducible assumption | with_reducible refine Bl.drew_ ?_ | with_reducible refine Bl.drewN_ ?_ _ | with_reducible refine Bl.alloc_ ?_ _ | with_reducible refine Bl.trans_ ?_ (by assumption) | with_reducible refine Bl.trans_ ?_ (And.left (by assumption))))) (K2.out.bl (by repeat' (first | exact Bl.refl _ | with_reducible assumption | with_reducible refine Bl.drew_ ?_ | with_reducible refine Bl.drewN_ ?_ _ | with_reducible refine Bl.alloc_ ?_ _ | with_reducible refine Bl.trans_ ?_ (by assumption) | with_reducible refine Bl.trans_ ?_ (And.left (by assumption)))))).mono ?_
        rintro e w1 ⟨rfl, hb1⟩
        rw [HX.out]
        go_wp2
        go_ret
        exact NIL.out _ (by repeat' (first | exact Bl.refl _ | with_reducible assumption | with_reducible refine Bl.drew_ ?_ | with_reducible refine Bl.drewN_ ?_ _ | with_reducible refine Bl.alloc_ ?_ _ | with_reducible refine Bl.trans_ ?_ (by assumption) | with_reducible refine Bl.trans_ ?_ (And.left (by assumption)))) HM.out
      | true =>
        have HX := Lib.hid hbF
        cases hbT : hasB N L T with
        | false =>
          have HY := Lib.hid hbT
          have HM := Lib.hid (show matL N L F T = [] from matL_no (by
            rw [HBT.out] at hbT
            unfold matB
            cases h : okB N L
            · rfl
            · rw [h, Bool.true_and] at hbT
              rw [hbT]; simp))
          clear hbF hbT
          go_enter Try.func29, Try.ntmps29
          go_wp2_with fail
          refine (hasNodes_any N A n c L HN.out AF kF cF F HF.out _ (by omega) hkF (K1.out.bl (by repeat' (first | exact Bl.refl _ | with_reducible assumption | with_reducible refine Bl.drew_ ?_ | with_reducible refine Bl.drewN_ ?_ _ | with_reducible refine Bl.alloc_ ?_ _ | with_reducible refine Bl.trans_ ?_ (by assumption) | with_reducible refine Bl.trans_ ?_ (And.left (by assumption))))) (K2.out.bl (by repeat' (first | exact Bl.refl _ | with_reducible assumption | with_reducible refine Bl.drew_ ?_ | with_reducible refine Bl.drewN_ ?_ _ | with_reducible refine Bl.alloc_ ?_ _ | with_reducible refine Bl.trans_ ?_ (by assumption) | with_reducible refine Bl.trans_ ?_ (And.left (by assumption)))))).mono ?_
          rintro e w1 ⟨rfl, hb1⟩
          rw [HX.out]
          obtain ⟨q0, q1⟩ := box2 hb1
          have B1 := Lib.hid ((Bl.alloc_ (Bl.refl w) _).trans_ hb1)
          clear hb1
          go_wp2_with fail
          refine (hasNodes_any N A n c L HN.out AT kT cT T HT.out _ (by omega) hkT (K1.out.bl B1.out) (K3.out.bl B1.out)).mono ?_
          rintro e w2 ⟨rfl, hb2⟩
          rw [HY.out]
          have B2 := Lib.hid (B1.out.trans_ hb2)
          clear hb2
          go_wp2
          go_ret
          exact NIL.out _ B2.out HM.out
        | true =>
          have HY := Lib.hid hbT
          have h1 := HBF.out
          have h2 := HBT.out
          rw [hbF] at h1
          rw [hbT] at h2
          have h1' := (Bool.and_eq_true _ _).mp h1.symm
          have h2' := (Bool.and_eq_true _ _).mp h2.symm
          obtain ⟨ho, hnF⟩ := h1'
          obtain ⟨-, hnT⟩ := h2'
          have HM := Lib.hid (show matL N L F T = matR N L F T from matL_yes (by unfold matB; rw [ho, hnF, hnT]; rfl))
          have HO := Lib.hid ho
          have hN1 := (okB_elim ho).1
          have FN := Lib.hid (nodesB_elim hnF).1
          have TN := Lib.hid (nodesB_elim hnT).1
          clear hbF hbT h1 h2 ho hnF hnT HBF HBT
          obtain ⟨q, rfl⟩ : ∃ q : Nat, N = q := ⟨N.toNat, by omega⟩
          go_enter Try.func29, Try.ntmps29
          go_wp2_with fail
          refine (hasNodes_any q A n c L HN.out AF kF cF F HF.out _ (by omega) hkF (K1.out.bl (by repeat' (first | exact Bl.refl _ | with_reducible assumption | with_reducible refine Bl.drew_ ?_ | with_reducible refine Bl.drewN_ ?_ _ | with_reducible refine Bl.alloc_ ?_ _ | with_reducible refine Bl.trans_ ?_ (by assumption) | with_reducible refine Bl.trans_ ?_ (And.left (by assumption))))) (K2.out.bl (by repeat' (first | exact Bl.refl _ | with_reducible assumption | with_reducible refine Bl.drew_ ?_ | with_reducible refine Bl.drewN_ ?_ _ | with_reducible refine Bl.alloc_ ?_ _ | with_reducible refine Bl.trans_ ?_ (by assumption) | with_reducible refine Bl.trans_ ?_ (And.left (by assumption)))))).mono ?_
          rintro e w1 ⟨rfl, hb1⟩
          rw [HX.out]
          obtain ⟨q0, q1⟩ := box2 hb1
          have B1 := Lib.hid ((Bl.alloc_ (Bl.refl w) _).trans_ hb1)
          have X1 := Lib.hid hb1
          clear hb1
          go_wp2_with fail
          refine (hasNodes_any q A n c L HN.out AT kT cT T HT.out _ (by omega) hkT (K1.out.bl B1.out) (K3.out.bl B1.out)).mono ?_
          rintro e w2 ⟨rfl, hb2⟩
          rw [HY.out]
          obtain ⟨q0, q1⟩ := box2 (X1.out.trans_ hb2)
          have B2 := Lib.hid (B1.out.trans_ hb2)
          clear hb2
          go_wp2_with fail
          refine (rowsTo_any q A n c AF kF cF AT kT cT _).mono ?_
          rintro e w3 ⟨rfl, hw3⟩
          have HW3 := Lib.hid hw3
          have B23 := Lib.hid (show Bl w2 w3 from by rw [hw3]; exact (((Bl.refl _).alloc_ _).alloc_ _).alloc_ _)
          have B3 := Lib.hid (B2.out.trans_ B23.out)
          have hIn : MIn w3 (w2.heap.size + 1) w2.heap.size (w2.heap.size + 2) q A n c L AF kF cF F AT kT cT T := by
            refine ⟨?_, ?_, ?_, ?_, K1.out.bl B3.out, K2.out.bl B3.out, K3.out.bl B3.out⟩ <;> (rw [hw3]; simp [go_sem])
          have HIN := Lib.hid hIn
          clear hw3 hIn q0 q1
          go_wp2_with fail
          refine (collectRows_any q (w2.heap.size + 1) w2.heap.size (w2.heap.size + 2) A n c L HN.out hc HO.out AF kF cF F HF.out FN.out AT kT cT T HT.out TN.out (by omega) (by omega) w3 HIN.out).mono ?_
          rintro e w4 ⟨v, G, rfl, hv, hb4⟩
          have V := Lib.hid hv
          have B4 := Lib.hid (B3.out.trans_ hb4)
          clear hv hb4
          go_wp2
          go_ret
          exact ⟨v, G, rfl, by rw [HM.out]; exact V.out.low B3.out.size, B4.out⟩

end Go.Proofs.Ytlddileiecnkjaa

set_option linter.unusedSimpArgs false
set_option linter.unusedVariables false
namespace Go.Proofs.Ytlddileiecnkjaa
open Go.ChangeShapes Go.WideShapes Go.ChangeAt Go.RowKit

set_option maxHeartbeats 400000 in
theorem toInt64S_row (A : Option Addr) (n c : Nat) (V : List Int) (hn : n = V.length) (w : World) (hm : n ≤ 1048576) (H1 : IntsAt w w.heap.size A V) :
    Calls Try.prog 28 #[.slice A n c] w fun e w' => e = .returned (.slice (some ⟨w.heap.size, 0, none⟩) n n) ∧ IntsAt w' w'.heap.size (some ⟨w.heap.size, 0, none⟩) V ∧ Bl w w' ∧ RowsW 2 1 w' (some ⟨w.heap.size, 0, none⟩) n ∧ w.heap.size < w'.heap.size := by
  have K1 := Lib.hid H1
  have HN := Lib.hid hn
  clear H1 hn
  have hmk := make_nums n hm
  go_enter Try.func28, Try.ntmps28
  go_wp2
  clear hmk
  go_loopw [4] (fun i wr => ∃ k : Nat, k ≤ n ∧ i = .int .i64 k ∧ Bl w wr ∧ ∃ f, wr.rowIs w.heap.size 2 n f ∧ ∀ j (h : j < k) (h' : j < V.length), f j = .int .i64 V[j]) (fun i _ => n - (intOf i).toNat)
  case atStart => exact ⟨0, by omega, rfl, (by repeat' (first | exact Bl.refl _ | with_reducible assumption | with_reducible refine Bl.drew_ ?_ | with_reducible refine Bl.drewN_ ?_ _ | with_reducible refine Bl.alloc_ ?_ _ | with_reducible refine Bl.trans_ ?_ (by assumption) | with_reducible refine Bl.trans_ ?_ (And.left (by assumption)))), _, mk1_row _ _ _, fun j h => absurd h (by omega)⟩
  case round =>
    obtain ⟨k, hk, rfl, hbl, f, hrow, hf⟩ := hrel
    by_cases hlt : k < n
    · have hkl : k < V.length := by have := HN.out; omega
      obtain ⟨g1, o1, rfl, hg1, hc1⟩ := K1.out.cell (by omega)
      have p1 := hc1 k hkl
      rw [← (bcell hbl).1 _ _ hg1] at p1
      have F := Lib.hid hf
      have R := Lib.hid hrow
      clear hf hrow hc1
      have z1 := R.out.cell (i := k) (by omega)
      have y1 := R.out.frozen k
      have i0 : (0 : Int) ≤ (k : Int) := by omega
      have i1 : (k : Int) < (n : Int) := by omega
      generalize hv : V[k] = x at p1
      go_wp2
      go_roundw
      case rel =>
        refine ⟨k + 1, by omega, by go_num, Bl.set_ hbl (Nat.le_refl _) _, _, R.out.set k _, fun j hj hj' => ?_⟩
        rcases Nat.lt_or_ge j k with h | h
        · rw [if_neg (by omega)]
          exact F.out j h hj'
        · have e : j = k := by omega
          subst e
          rw [if_pos rfl, hv]
      case measure => simp [intOf]; omega
    · go_wp2
      go_ret
      have e : k = n := by omega
      subst e
      refine ⟨rfl, fun h0 => ⟨w.heap.size, 0, rfl, hrow.lt, fun j hj => ?_⟩, hbl, fun _ => ⟨w.heap.size, 0, _, f, rfl, by omega, hrow⟩, hrow.lt⟩
      rw [csI_len] at hj
      have hjk : j < k := by have := HN.out; omega
      rw [csI_at, ← hf j hjk hj, Nat.zero_add]
      exact hrow.cell hjk

end Go.Proofs.Ytlddileiecnkjaa

set_option linter.unusedSimpArgs false
set_option linter.unusedVariables false
namespace Go.Proofs.Ytlddileiecnkjaa
open Go.RowKit

/-- The slice may be written: it leads to a row of its own. -/
def RowW (w : World) (A : Option Addr) (n : Nat) : Prop := 0 < n → ∃ g m f, A = some ⟨g, 0, none⟩ ∧ n * 3 ≤ m ∧ w.rowIs g 146 m f
/-- The slice holds the numbers from k on. -/
def MarkedAt (w : World) (A : Option Addr) (n : Nat) (k : Int) : Prop := 0 < n → ∃ g, A = some ⟨g, 0, none⟩ ∧ g < w.heap.size ∧ ∀ j, j < n →
  w.cell? ⟨g, j * 3, none⟩ = some (.int .i64 (k + 3 * j)) ∧ w.cell? ⟨g, j * 3 + 1, none⟩ = some (.int .i64 (k + 3 * j + 1)) ∧ w.cell? ⟨g, j * 3 + 2, none⟩ = some (.int .i64 (k + 3 * j + 2))
theorem MarkedAt.bl {w w' : World} {A : Option Addr} {n : Nat} {k : Int} (h : MarkedAt w A n k) (hb : Bl w w') : MarkedAt w' A n k := fun h0 => by
  obtain ⟨g, e, hg, hc⟩ := h h0
  have hh := (bcell hb).1
  exact ⟨g, e, Nat.lt_of_lt_of_le hg hb.size, fun j hj => by rw [hh _ _ hg, hh _ _ hg, hh _ _ hg]; exact hc j hj⟩
theorem RowW.bl {w w' : World} {A : Option Addr} {n : Nat} (h : RowW w A n) (hb : Bl w w') : RowW w' A n := fun h0 => by
  obtain ⟨g, m, f, e, hm, hr⟩ := h h0
  exact ⟨g, m, f, e, hm, row_bl hr hb⟩
theorem OwnA.row {w : World} {B : Nat} {A : Option Addr} {n c : Nat} {L : List Arc3} (h : OwnA w B (.slice A n c) L) (hn : n = L.length) : RowW w A n := fun h0 => by
  have h' : w.ownsRow B 146 3 (.slice A n c) L.length (cs3 L) := h
  rcases h'.2 with ⟨e, h1⟩ | ⟨g, cap, cur, e, hB, hg, hnc, hcm, hcs, htake⟩
  · omega
  · injection e with e1 e2 e3
    exact ⟨g, cur.size, fun i => cur.getD i undef, e1, by omega, cur, hg, rfl, fun i hi => by simp [Array.getD, hi]⟩

theorem only_setCell {a w : World} {g : Nat} (h : a.grownBy w (some g)) {p : Addr} (hp : p.block = g ∨ a.heap.size ≤ p.block) (u : Value) : a.grownBy (w.setCell p u) (some g) :=
  ⟨h.os, h.tape, h.output, by simpa [World.setCell] using h.size, fun i hi hne => (Below.heap_setCell w p u i (by
    rintro rfl
    rcases hp with hp | hp
    · exact hne (by rw [hp])
    · omega)).trans (h.block i hi hne)⟩

/-- What the marks leave. -/
def MarkPost (A : Option Addr) (n : Nat) (k : Int) (w : World) (e : Ending) (w' : World) : Prop :=
  e = .returned (.int .i64 (k + 3 * n)) ∧ MarkedAt w' A n k ∧ w.grownBy w' (blockOf A) ∧ RowW w' A n

set_option maxHeartbeats 1000000 in
theorem markArcS_any (A : Option Addr) (n c : Nat) (k : Int) (w : World) (hn : n ≤ 1048576) (hk0 : 0 ≤ k) (hk1 : k ≤ 1099511627776) (HR : RowW w A n) :
    Calls Try.prog 96 #[.slice A n c, .int .i64 k] w (MarkPost A n k w) := by
  have R := Lib.hid HR
  clear HR
  rcases Nat.eq_zero_or_pos n with rfl | hpos
  · go_enter Try.func96, Try.ntmps96
    go_wp2
    refine wp_loop_rounds 1 ?_
    rw [rounds_succ]
    go_wp2
    go_ret
    exact ⟨ret_int (by simp), fun h => absurd h (by omega), World.grownBy.refl w _, R.out⟩
  · obtain ⟨g, m, f, rfl, hm, hr⟩ := R.out hpos
    have hg := hr.lt
    have R0 := Lib.hid hr
    clear hr R
    go_enter Try.func96, Try.ntmps96
    go_wp2
    go_loopw [1, 5] (fun q i wr => ∃ (j : Nat) (f : Nat → Value), j ≤ n ∧ i = .int .i64 j ∧ q = .int .i64 (k + 3 * j) ∧ wr.rowIs g 146 m f ∧ w.grownBy wr (some g) ∧ wr.heap.size = w.heap.size ∧
      ∀ t, t < j → f (t * 3) = .int .i64 (k + 3 * t) ∧ f (t * 3 + 1) = .int .i64 (k + 3 * t + 1) ∧ f (t * 3 + 2) = .int .i64 (k + 3 * t + 2)) (fun _ i _ => n - (intOf i).toNat)
    case atStart => exact ⟨0, f, by omega, rfl, by simp, R0.out, World.grownBy.refl w _, rfl, fun t h => absurd h (by omega)⟩
    case round =>
      obtain ⟨j, f', hj, rfl, rfl, hr, hgr, hsz, hf⟩ := hrel
      have R1 := Lib.hid hr
      have G := Lib.hid hgr
      have Z := Lib.hid hsz
      have F := Lib.hid hf
      clear hr hgr hsz hf
      by_cases hlt : j < n
      · have z1 := R1.out.cell (i := j * 3) (by omega)
        have z2 := R1.out.cell (i := j * 3 + 1) (by omega)
        have z3 := R1.out.cell (i := j * 3 + 2) (by omega)
        have y1 := R1.out.frozen (j * 3)
        have y2 := R1.out.frozen (j * 3 + 1)
        have y3 := R1.out.frozen (j * 3 + 2)
        go_wp2
        go_roundw
        case rel =>
          refine ⟨j + 1, _, by omega, by go_num, by go_num, ((R1.out.set (j * 3) _).set (j * 3 + 1) _).set (j * 3 + 2) _, only_setCell (only_setCell (only_setCell G.out (.inl rfl) _) (.inl rfl) _) (.inl rfl) _, by rw [World.size_setCell, World.size_setCell, World.size_setCell]; exact Z.out, fun t ht => ?_⟩
          rcases Nat.lt_or_ge t j with h | h
          · rw [if_neg (by omega), if_neg (by omega), if_neg (by omega), if_neg (by omega), if_neg (by omega), if_neg (by omega), if_neg (by omega), if_neg (by omega), if_neg (by omega)]
            exact F.out t h
          · have e : t = j := by omega
            subst e
            exact ⟨by rw [if_neg (by omega), if_neg (by omega), if_pos rfl], by rw [if_neg (by omega), if_pos rfl], by rw [if_pos rfl]; congr 1; omega⟩
        case measure => simp [intOf]; omega
      · go_wp2
        go_ret
        have e : j = n := by omega
        subst e
        refine ⟨ret_int rfl, fun _ => ⟨g, rfl, by rw [Z.out]; exact hg, fun t ht => ?_⟩, G.out, fun _ => ⟨g, m, f', rfl, hm, R1.out⟩⟩
        obtain ⟨e1, e2, e3⟩ := F.out t ht
        exact ⟨by rw [← e1]; exact R1.out.cell (by omega), by rw [← e2]; exact R1.out.cell (by omega), by rw [← e3]; exact R1.out.cell (by omega)⟩

set_option maxHeartbeats 400000 in
theorem markGraph_any (N : Int) (A : Option Addr) (n c : Nat) (k : Int) (w : World) (hn : n ≤ 1048576) (hk0 : 0 ≤ k) (hk1 : k ≤ 1099511627776) (HR : RowW w A n) :
    Calls Try.prog 33 #[.agg #[.int .i64 N, .slice A n c], .int .i64 k] w (MarkPost A n k w) := by
  have R := Lib.hid HR
  clear HR
  go_enter Try.func33, Try.ntmps33
  go_wp2_with fail
  refine (markArcS_any A n c k _ hn hk0 hk1 (R.out.bl (by repeat' (first | exact Bl.refl _ | with_reducible assumption | with_reducible refine Bl.drew_ ?_ | with_reducible refine Bl.drewN_ ?_ _ | with_reducible refine Bl.alloc_ ?_ _ | with_reducible refine Bl.trans_ ?_ (by assumption) | with_reducible refine Bl.trans_ ?_ (And.left (by assumption)))))).mono ?_
  rintro e w1 ⟨rfl, hmk, hgr, hro⟩
  have M := Lib.hid hmk
  have G := Lib.hid hgr
  have O := Lib.hid hro
  clear hmk hgr hro
  go_wp2
  go_ret
  exact ⟨ret_int rfl, M.out, grown_of_bl (by repeat' (first | exact Bl.refl _ | with_reducible assumption | with_reducible refine Bl.drew_ ?_ | with_reducible refine Bl.drewN_ ?_ _ | with_reducible refine Bl.alloc_ ?_ _ | with_reducible refine Bl.trans_ ?_ (by assumption) | with_reducible refine Bl.trans_ ?_ (And.left (by assumption)))) G.out, O.out⟩


end Go.Proofs.Ytlddileiecnkjaa
