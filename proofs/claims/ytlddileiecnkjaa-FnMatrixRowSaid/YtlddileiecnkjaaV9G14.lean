/-
  What is proved here: the iterator over the rows of a table of distances tells just these, each in new memory; the code's table of distances; the reader of a code hands out numbers now and then outside of bounds, and nodes; two cells in a block of their own; a graph that is put together arc by arc. No conditions beyond those that each theorem states.
-/
import Derived.Test.YtlddileiecnkjaaV9G13
import Derived.Test.YtlddileiecnkjaaV9G11
import Derived.Test.YtlddileiecnkjaaV9RB
import Derived.Test.YtlddileiecnkjaaV9G12
import Derived.Test.YtlddileiecnkjaaV9G05
set_option linter.unusedSimpArgs false
set_option linter.unusedVariables false
namespace Go.Proofs.Ytlddileiecnkjaa
open Go.RowKit Go.Shelf
attribute [local go_sem] Oper.semAt_some

/-- What the iterator reads. -/
structure MIn (w : World) (fb gb tb q : Nat) (A : Option Addr) (n c : Nat) (L : List Arc3) (AF : Option Addr) (kF cF : Nat) (F : List Int) (AT : Option Addr) (kT cT : Nat) (T : List Int) : Prop where
  from_ : w.cell? ⟨fb, 0, none⟩ = some (.slice AF kF cF)
  size : w.cell? ⟨gb, 0, none⟩ = some (.int .i64 (q : Int))
  list : w.cell? ⟨gb, 1, none⟩ = some (.slice A n c)
  to_ : w.cell? ⟨tb, 0, none⟩ = some (.slice AT kT cT)
  arcs : ArcsAt w w.heap.size A L
  nf : IntsAt w w.heap.size AF F
  nt : IntsAt w w.heap.size AT T
def mBlocks (fb gb tb : Nat) (A : Option Addr) (L : List Arc3) (AF : Option Addr) (F : List Int) (AT : Option Addr) (T : List Int) (i : Nat) : Prop :=
  i = fb ∨ i = gb ∨ i = tb ∨ (0 < L.length ∧ blockOf A = some i) ∨ (0 < F.length ∧ blockOf AF = some i) ∨ (0 < T.length ∧ blockOf AT = some i)
section
variable {w w' : World} {fb gb tb q : Nat} {A : Option Addr} {n c : Nat} {L : List Arc3} {AF : Option Addr} {kF cF : Nat} {F : List Int} {AT : Option Addr} {kT cT : Nat} {T : List Int}
theorem intsAt_turn {B : Nat} {A : Option Addr} {V : List Int} {S : Nat → Prop} (h : IntsAt w B A V) (hB : B ≤ w.heap.size) (k : Turn S w w') (hS : 0 < V.length → ∀ g, blockOf A = some g → ¬ S g) : IntsAt w' B A V := fun hp => by
  have hp' : 0 < V.length := by rw [csI_len] at hp; exact hp
  exact CellsAt.turn h hB k (fun g hg _ => hS hp' g hg) hp
theorem MIn.turn (h : MIn w fb gb tb q A n c L AF kF cF F AT kT cT T) {S : Nat → Prop} (t : Turn S w w') (hS : ∀ i, S i → ¬ mBlocks fb gb tb A L AF F AT T i) : MIn w' fb gb tb q A n c L AF kF cF F AT kT cT T := by
  have c1 := fun o => (t.cells (World.block_lt_of_cell? _ _ h.from_) (fun e => hS _ e (.inl rfl)) o).1
  have c2 := fun o => (t.cells (World.block_lt_of_cell? _ _ h.size) (fun e => hS _ e (.inr (.inl rfl))) o).1
  have c3 := fun o => (t.cells (World.block_lt_of_cell? _ _ h.to_) (fun e => hS _ e (.inr (.inr (.inl rfl)))) o).1
  exact ⟨(c1 0).trans h.from_, (c2 0).trans h.size, (c2 1).trans h.list, (c3 0).trans h.to_,
    (ArcsAt.turn h.arcs (Nat.le_refl _) t (fun h0 g hg e => hS g e (.inr (.inr (.inr (.inl ⟨h0, hg⟩)))))).more t.size,
    (intsAt_turn h.nf (Nat.le_refl _) t (fun h0 g hg e => hS g e (.inr (.inr (.inr (.inr (.inl ⟨h0, hg⟩))))))).more t.size,
    (intsAt_turn h.nt (Nat.le_refl _) t (fun h0 g hg e => hS g e (.inr (.inr (.inr (.inr (.inr ⟨h0, hg⟩))))))).more t.size⟩
theorem MIn.lt (h : MIn w fb gb tb q A n c L AF kF cF F AT kT cT T) {i : Nat} (hi : mBlocks fb gb tb A L AF F AT T i) : i < w.heap.size := by
  rcases hi with rfl | rfl | rfl | ⟨h0, e⟩ | ⟨h0, e⟩ | ⟨h0, e⟩
  · exact World.block_lt_of_cell? _ _ h.from_
  · exact World.block_lt_of_cell? _ _ h.size
  · exact World.block_lt_of_cell? _ _ h.to_
  · obtain ⟨g, off, rfl, hg, -⟩ := h.arcs h0
    have : g = i := by simpa [blockOf] using e
    omega
  · obtain ⟨g, off, rfl, hg, -⟩ := h.nf (by rw [csI_len]; exact h0)
    have : g = i := by simpa [blockOf] using e
    omega
  · obtain ⟨g, off, rfl, hg, -⟩ := h.nt (by rw [csI_len]; exact h0)
    have : g = i := by simpa [blockOf] using e
    omega
end
def encR (x : SlH) : Array Value := #[.agg #[slV x]]
/-- The next row lies in memory that is new. -/
def NextRow (q : Nat) (L : List Arc3) (F T : List Int) (pre : List SlH) (x : SlH) (A W : World) : Prop := ∃ h : pre.length < F.length, OwnN W A.heap.size (slV x) (matRow q L T F[pre.length])
def AllRow (F : List Int) (xs : List SlH) : Prop := xs.length = F.length

set_option maxRecDepth 100000 in
set_option maxHeartbeats 8000000 in
theorem rows_walk (q : Nat) (fb gb tb : Nat) (A : Option Addr) (n c : Nat) (L : List Arc3) (hn : n = L.length) (hc : n ≤ c) (ho : okB (q : Int) L = true) (AF : Option Addr) (kF cF : Nat) (F : List Int) (hF : kF = F.length) (hFn : ∀ v ∈ F, 0 ≤ v ∧ v < (q : Int)) (AT : Option Addr) (kT cT : Nat) (T : List Int) (hT : kT = T.length) (hTn : ∀ v ∈ T, 0 ≤ v ∧ v < (q : Int))
    (hkF : kF ≤ 60) (hkT : kT ≤ 60) (w0 : World) (hI : MIn w0 fb gb tb q A n c L AF kF cF F AT kT cT T) :
    SeqB Try.prog 134 #[.pointer (some ⟨fb, 0, none⟩), .pointer (some ⟨gb, 0, none⟩), .pointer (some ⟨tb, 0, none⟩)] encR (NextRow q L F T) (AllRow F) (mBlocks fb gb tb A L AF F AT T) w0 := by
  intro l J S W hb0 hS hJ hY hJ0
  obtain ⟨i0, hi, hz0, hz1, hz2⟩ := info_parts infoInt
  have I0 := Lib.hid hi
  have I1 := Lib.hid hz0
  have I2 := Lib.hid hz1
  have I3 := Lib.hid hz2
  have HN := Lib.hid hn
  have HO := Lib.hid ho
  have HFL := Lib.hid hF
  have HFN := Lib.hid hFn
  have HTL := Lib.hid hT
  have HTN := Lib.hid hTn
  have HI := Lib.hid (hI.turn (Turn.of_bl (S := fun _ => False) hb0) (fun _ h => h.elim))
  have HS := Lib.hid (show ∀ i, (S i ∨ W.heap.size ≤ i) → ¬ mBlocks fb gb tb A L AF F AT T i from fun i h hm => h.elim (fun h => hS i h hm) (fun h => by have := HI.out.lt hm; omega))
  have HJ := Lib.hid hJ
  have HY := Lib.hid hY
  have HJ0 := Lib.hid hJ0
  have hq24 := (okB_elim ho).2.1
  have q0 := HI.out.from_
  clear hn ho hF hFn hT hTn hI hb0 hS hJ hY hJ0 hi hz0 hz1 hz2
  refine callsIn_of_wp Try.func134 rfl trivial ?_ rfl
  simp only [Try.ntmps134, List.size_toArray, List.length_cons, List.length_nil, Nat.reduceAdd, Nat.reduceSub, Array.replicate_succ, Array.replicate_zero, List.push_toArray, List.append_toArray, List.nil_append, List.cons_append]
  gi_wp2_with fail
  clear q0
  gi_loopw [13] (fun i wr => ∃ (k : Nat) (pre : List SlH), k ≤ kF ∧ i = .int .i64 k ∧ Hid (pre.length = k) ∧ Hid (J pre wr) ∧ Turn (fun i => S i ∨ W.heap.size ≤ i) W wr) (fun i _ => kF - (intOf i).toNat)
  case atStart => exact ⟨0, [], by omega, rfl, Lib.hid rfl, HJ0, Turn.refl _ _⟩
  case round =>
    obtain ⟨k, pre, hk, rfl, HP, J1, hst⟩ := hrel
    have ST := Lib.hid hst
    obtain ⟨wq, rfl⟩ : ∃ x : World, x = wr := ⟨_, rfl⟩
    clear hst
    by_cases hlt : k < kF
    · have hkl : k < F.length := by have := HFL.out; omega
      have in1 := HI.out.turn ST.out HS.out
      obtain ⟨gF, oF, rfl, hgF, hcF⟩ := in1.nf.cell (by omega)
      have p1 := hcF k hkl
      have hsN := HFN.out F[k] (List.getElem_mem hkl)
      have SK := Lib.hid (rfl : F[k] = F[k])
      obtain ⟨s, hs⟩ : ∃ s, s = F[k] := ⟨_, rfl⟩
      rw [← hs] at p1 hsN
      have HSK := Lib.hid hs
      have y0 := in1.size
      have y1 := in1.list
      have IN := Lib.hid in1
      have u0 : (0 : Int) ≤ (k : Int) := by omega
      have u1 : (k : Int) < (kF : Int) := by omega
      clear hcF hs SK in1
      gi_wp2_with fail
      refine ⟨trivial, rfl, CallsIn.mono (callsIn_wide.2 (distances_any q s A n c L HN.out hc HO.out hsN.1 hsN.2 _ IN.out.arcs)) ?_⟩
      rintro e w4 ⟨E, rfl, hE, hEd, hb4⟩
      have EL := Lib.hid hE
      have B4 := Lib.hid hb4
      have ED := Lib.hid (show ∀ u : Nat, u < q → dAt (distL q L s) (u : Int) = E.getD u 0 from fun u hu => by
        rw [← hEd]
        unfold dAt
        simp only [List.getD_eq_getElem?_getD]
        rw [List.getElem?_take, if_pos (by omega)]
        simp [hE, show u < 24 by omega])
      clear hE hEd hb4 p1 y0 y1
      have NS := Lib.hid (NumsAt.stored EL.out (by simp) (there_new w4 114))
      have hbS := Bl.setCells_ w4.heap.size (Nat.le_refl _) (csI E) 0 _ ((Bl.refl w4).alloc_ (.cells #[.int .i64 0, .int .i64 0, .int .i64 0, .int .i64 0, .int .i64 0, .int .i64 0, .int .i64 0, .int .i64 0, .int .i64 0, .int .i64 0, .int .i64 0, .int .i64 0, .int .i64 0, .int .i64 0, .int .i64 0, .int .i64 0, .int .i64 0, .int .i64 0, .int .i64 0, .int .i64 0, .int .i64 0, .int .i64 0, .int .i64 0, .int .i64 0] 114))
      have HBS := Lib.hid hbS
      have tbl := World.block_lt_of_cell? _ _ IN.out.to_
      simp only at tbl
      have tb4 : tb < w4.heap.size := Nat.lt_of_lt_of_le tbl B4.out.size
      have z1 : ((w4.alloc (.cells #[.int .i64 0, .int .i64 0, .int .i64 0, .int .i64 0, .int .i64 0, .int .i64 0, .int .i64 0, .int .i64 0, .int .i64 0, .int .i64 0, .int .i64 0, .int .i64 0, .int .i64 0, .int .i64 0, .int .i64 0, .int .i64 0, .int .i64 0, .int .i64 0, .int .i64 0, .int .i64 0, .int .i64 0, .int .i64 0, .int .i64 0, .int .i64 0] 114)).setCells w4.heap.size 0 (csI E)).cell? ⟨tb, 0, none⟩ = some (.slice AT kT cT) := ((bcell hbS).1 _ _ tb4).trans (((bcell B4.out).1 _ _ tbl).trans IN.out.to_)
      have z2 : tb < ((w4.alloc (.cells #[.int .i64 0, .int .i64 0, .int .i64 0, .int .i64 0, .int .i64 0, .int .i64 0, .int .i64 0, .int .i64 0, .int .i64 0, .int .i64 0, .int .i64 0, .int .i64 0, .int .i64 0, .int .i64 0, .int .i64 0, .int .i64 0, .int .i64 0, .int .i64 0, .int .i64 0, .int .i64 0, .int .i64 0, .int .i64 0, .int .i64 0, .int .i64 0] 114)).setCells w4.heap.size 0 (csI E)).heap.size := Nat.lt_of_lt_of_le tb4 hbS.size
      clear hbS tbl tb4
      gi_wp2_with (refine wpListIn_store_mid rfl 114 (.tmp 7) (.tmp 19) rfl w4.heap.size 0 (csI E).toArray rfl rfl ?c1 ?c2 (csI_one _) ?_)
      case c1 => simpa [csI_len, EL.out] using there_new w4 114
      case c2 => simpa [csI_len, EL.out] using size24
      obtain ⟨w5, hw5⟩ : ∃ w5, w5 = (w4.alloc (.cells #[.int .i64 0, .int .i64 0, .int .i64 0, .int .i64 0, .int .i64 0, .int .i64 0, .int .i64 0, .int .i64 0, .int .i64 0, .int .i64 0, .int .i64 0, .int .i64 0, .int .i64 0, .int .i64 0, .int .i64 0, .int .i64 0, .int .i64 0, .int .i64 0, .int .i64 0, .int .i64 0, .int .i64 0, .int .i64 0, .int .i64 0, .int .i64 0] 114)).setCells w4.heap.size 0 (csI E) := ⟨_, rfl⟩
      have NS5 := Lib.hid (show NumsAt w5 w4.heap.size E from by rw [hw5]; exact NS.out)
      have B5 := Lib.hid (show Bl wq w5 from by rw [hw5]; exact B4.out.trans_ HBS.out)
      rw [← hw5] at z1 z2 ⊢
      clear hw5 NS HBS
      have RX0 := Lib.hid (RX.new w5)
      obtain ⟨rb, hrb⟩ : ∃ rb, rb = w5.heap.size := ⟨_, rfl⟩
      obtain ⟨db, hdb⟩ : ∃ db, db = w4.heap.size := ⟨_, rfl⟩
      rw [← hdb] at NS5 ⊢
      clear hdb
      rw [← hrb] at RX0 ⊢
      clear hrb z1 z2
      gi_loopw [22] (fun kv wr => ∃ (t : Nat) (y : Value), t ≤ kT ∧ kv = .int .i64 t ∧ RX w5 rb y (matRow q L (T.take t) s) wr) (fun kv _ => kT - (intOf kv).toNat)
      case atStart => exact ⟨0, _, by omega, rfl, RX0.out⟩
      case round =>
        obtain ⟨t, y, ht, rfl, hT2⟩ := hrel
        have TT := Lib.hid hT2
        obtain ⟨c0, f0, hrl⟩ := hT2.facts
        have hlo := hT2.lo
        by_cases hlt2 : t < kT
        · have htl : t < T.length := by have := HTL.out; omega
          obtain ⟨gT, oT, rfl, hgT, hcT⟩ := IN.out.nt.cell (by omega)
          have p1 := hcT t htl
          have htN := HTN.out T[t] (List.getElem_mem htl)
          have STT := Lib.hid (matRow_take q L T s htl)
          obtain ⟨z, hz⟩ : ∃ z, z = T[t] := ⟨_, rfl⟩
          rw [← hz] at p1 htN STT
          obtain ⟨u, rfl⟩ : ∃ u : Nat, z = u := ⟨z.toNat, by omega⟩
          have hu24 : u < 24 := by omega
          have huq : u < q := by omega
          have p2 := NS5.out.cell u (by rw [EL.out]; exact hu24)
          rw [ED.out u huq, show E.getD u 0 = E[u]'(by rw [EL.out]; exact hu24) from by simp [EL.out, hu24]] at STT
          obtain ⟨d, hd⟩ : ∃ d, d = E[u]'(by rw [EL.out]; exact hu24) := ⟨_, rfl⟩
          rw [← hd] at p2 STT
          have hlen : (matRow q L (T.take t) s).length ≤ 60 := by rw [matRow_len]; have := List.length_take_le t T; omega
          obtain ⟨V, hV⟩ : ∃ V, V = matRow q L (T.take t) s := ⟨_, rfl⟩
          rw [← hV] at STT hlen TT
          have hdl := NS5.out.lt
          have HSY := Lib.hid (show ∀ wx, Bl w5 wx → wx.cell? ⟨gT, oT + t, none⟩ = some (.int .i64 (u : Int)) ∧ wx.cell? ⟨db, u, none⟩ = some (.int .i64 d) from fun wx hb => ⟨((bcell (B5.out.trans_ hb)).1 _ _ hgT).trans p1, ((bcell hb).1 _ _ hdl).trans p2⟩)
          have v0 : (0 : Int) ≤ (t : Int) := by omega
          have v1 : (t : Int) < (kT : Int) := by omega
          have v2 : (0 : Int) ≤ (u : Int) := by omega
          have v3 : (u : Int) < 24 := by omega
          clear hcT p1 p2 hz hd hV hT2 htN hgT hdl
          have p1r := (HSY.out wr TT.out.bl).1
          gi_wp2_with fail
          refine wpIn_region_held (S := fun wx => wx.cell? ⟨gT, oT + t, none⟩ = some (.int .i64 (u : Int)) ∧ wx.cell? ⟨db, u, none⟩ = some (.int .i64 d)) (by kernel_rfl) ?_ (fun hHeld => ?_)
          · (first | exact HSY.out _ B13.out | exact HSY.out _ (B13.out.set_ TT.out.lo _) | exact HSY.out _ (TT.out.bl.trans_ (by repeat' (first | exact Bl.refl _ | with_reducible assumption | with_reducible refine Bl.drew_ ?_ | with_reducible refine Bl.drewN_ ?_ _ | with_reducible refine Bl.alloc_ ?_ _ | with_reducible refine Bl.trans_ ?_ (by assumption) | with_reducible refine Bl.trans_ ?_ (And.left (by assumption))))))
          refine wpAnyH_take (i := 0) (v := ?_) rfl (by kernel_rfl) (by kernel_rfl) (by kernel_rfl) (fun _ _ _ h => h) (Or.inl ⟨by kernel_rfl, ?_⟩) (by assumption) ?_
          rotate_left
          · (intro wx hSw; (try dsimp only at hSw); go_simp; try (with_reducible rfl))
          try simp only [Act.put, List.getElem_toArray, List.getElem_cons_succ, List.getElem_cons_zero, List.setIfInBounds_toArray, List.set_cons_zero, List.set_cons_succ]
          refine wpAnyH_take (i := 2) (v := ?_) rfl (by kernel_rfl) (by kernel_rfl) (by kernel_rfl) (fun _ _ _ h => h) (Or.inl ⟨by kernel_rfl, ?_⟩) (by assumption) ?_
          rotate_left
          · (intro wx hSw; (try dsimp only at hSw); go_simp; try (with_reducible rfl))
          try simp only [Act.put, List.getElem_toArray, List.getElem_cons_succ, List.getElem_cons_zero, List.setIfInBounds_toArray, List.set_cons_zero, List.set_cons_succ]
          refine wpAnyH_take (i := 3) (v := ?_) rfl (by kernel_rfl) (by kernel_rfl) (by kernel_rfl) (fun _ _ _ h => h) (Or.inl ⟨by kernel_rfl, ?_⟩) (by assumption) ?_
          rotate_left
          · (intro wx hSw; (try dsimp only at hSw); go_simp; try (with_reducible rfl))
          try simp only [Act.put, List.getElem_toArray, List.getElem_cons_succ, List.getElem_cons_zero, List.setIfInBounds_toArray, List.set_cons_zero, List.set_cons_succ]
          refine wpAnyH_take (i := 4) (v := ?_) rfl (by kernel_rfl) (by kernel_rfl) (by kernel_rfl) (fun _ _ _ h => h) (Or.inl ⟨by kernel_rfl, ?_⟩) (by assumption) ?_
          rotate_left
          · (intro wx hSw; (try dsimp only at hSw); go_simp; try (with_reducible rfl))
          try simp only [Act.put, List.getElem_toArray, List.getElem_cons_succ, List.getElem_cons_zero, List.setIfInBounds_toArray, List.set_cons_zero, List.set_cons_succ]
          refine wpAnyH_ready (rs := [1, 5]) (by kernel_rfl) (by simp) ?_
          refine AllReadyH.cons rfl (fun K hK => ?_) (AllReadyH.cons rfl (fun K hK => ?_) AllReadyH.nil)
          focus
            go_simp
            refine hK.out _ _ ?_ (fun hHeld => ?_)
            · (first | exact HSY.out _ B13.out | exact HSY.out _ (B13.out.set_ TT.out.lo _) | exact HSY.out _ (TT.out.bl.trans_ (by repeat' (first | exact Bl.refl _ | with_reducible assumption | with_reducible refine Bl.drew_ ?_ | with_reducible refine Bl.drewN_ ?_ _ | with_reducible refine Bl.alloc_ ?_ _ | with_reducible refine Bl.trans_ ?_ (by assumption) | with_reducible refine Bl.trans_ ?_ (And.left (by assumption))))))
            clear hK K
            try simp only [Act.put, List.getElem_toArray, List.getElem_cons_succ, List.getElem_cons_zero, List.setIfInBounds_toArray, List.set_cons_zero, List.set_cons_succ]
            refine wpAnyH_ready (rs := [5]) (by kernel_rfl) (by simp) ?_
            refine AllReadyH.cons rfl (fun K hK => ?_) AllReadyH.nil
            go_simp
            refine hK.out _ _ ?_ (fun hHeld => ?_)
            · (first | exact HSY.out _ B13.out | exact HSY.out _ (B13.out.set_ TT.out.lo _) | exact HSY.out _ (TT.out.bl.trans_ (by repeat' (first | exact Bl.refl _ | with_reducible assumption | with_reducible refine Bl.drew_ ?_ | with_reducible refine Bl.drewN_ ?_ _ | with_reducible refine Bl.alloc_ ?_ _ | with_reducible refine Bl.trans_ ?_ (by assumption) | with_reducible refine Bl.trans_ ?_ (And.left (by assumption))))))
            clear hK K
            try simp only [Act.put, List.getElem_toArray, List.getElem_cons_succ, List.getElem_cons_zero, List.setIfInBounds_toArray, List.set_cons_zero, List.set_cons_succ]
            refine wpAnyH_ready (rs := [6]) (by kernel_rfl) (by simp) ?_
            refine AllReadyH.cons rfl (fun K hK => ?_) AllReadyH.nil
            refine step_append_own _ rfl (.tmp 27) (.tmp 31) 24 rfl (rb + 1) 2 i0 _ 1 8 Try.underlying24 I0.out I1.out I2.out I3.out rfl (by decide) _ V.length (csI V) rfl (OwnN.bl TT.out.own (by repeat' (first | exact Bl.refl _ | with_reducible assumption | with_reducible refine Bl.drew_ ?_ | with_reducible refine Bl.drewN_ ?_ _ | with_reducible refine Bl.alloc_ ?_ _ | with_reducible refine Bl.trans_ ?_ (by assumption) | with_reducible refine Bl.trans_ ?_ (And.left (by assumption))))) ⟨wr.heap.size, 0, none⟩ 1 1 [.int .i64 d] rfl rfl (new1 _ _ _) (one1 _) (by unfold maxLen; omega) (by omega) (by simp; omega) ?_; intro v13 w13 hown2 hg2; have O2 := Lib.hid (OwnN.snoc (V := V) (x := d) rfl hown2); have U := Lib.hid ((TT.out.bl_ (by repeat' (first | exact Bl.refl _ | with_reducible assumption | with_reducible refine Bl.drew_ ?_ | with_reducible refine Bl.drewN_ ?_ _ | with_reducible refine Bl.alloc_ ?_ _ | with_reducible refine Bl.trans_ ?_ (by assumption) | with_reducible refine Bl.trans_ ?_ (And.left (by assumption))))).app hg2 O2.out); have b00 := (TT.out.bl_ (by repeat' (first | exact Bl.refl _ | with_reducible assumption | with_reducible refine Bl.drew_ ?_ | with_reducible refine Bl.drewN_ ?_ _ | with_reducible refine Bl.alloc_ ?_ _ | with_reducible refine Bl.trans_ ?_ (by assumption) | with_reducible refine Bl.trans_ ?_ (And.left (by assumption))))).grown_ hg2; have B13 := Lib.hid b00.2; obtain ⟨AA, cc, rfl, -, -⟩ := OwnN.shape O2.out; have d0 := b00.1.cell (i := 0) (by omega); have d1 := b00.1.frozen 0; clear hown2 hg2 b00
            refine hK.out _ _ ?_ (fun hHeld => ?_)
            · (first | exact HSY.out _ B13.out | exact HSY.out _ (B13.out.set_ TT.out.lo _) | exact HSY.out _ (TT.out.bl.trans_ (by repeat' (first | exact Bl.refl _ | with_reducible assumption | with_reducible refine Bl.drew_ ?_ | with_reducible refine Bl.drewN_ ?_ _ | with_reducible refine Bl.alloc_ ?_ _ | with_reducible refine Bl.trans_ ?_ (by assumption) | with_reducible refine Bl.trans_ ?_ (And.left (by assumption))))))
            clear hK K
            try simp only [Act.put, List.getElem_toArray, List.getElem_cons_succ, List.getElem_cons_zero, List.setIfInBounds_toArray, List.set_cons_zero, List.set_cons_succ]
            refine wpAnyH_take (i := 7) (v := ?_) rfl (by kernel_rfl) (by kernel_rfl) (by kernel_rfl) (fun _ _ _ h => h) (Or.inl ⟨by kernel_rfl, ?_⟩) (by assumption) ?_
            rotate_left
            · (intro wx hSw; (try dsimp only at hSw); go_simp; try (with_reducible rfl))
            try simp only [Act.put, List.getElem_toArray, List.getElem_cons_succ, List.getElem_cons_zero, List.setIfInBounds_toArray, List.set_cons_zero, List.set_cons_succ]
            refine wpAnyH_ready (rs := [8]) (by kernel_rfl) (by simp) ?_
            refine AllReadyH.cons rfl (fun K hK => ?_) AllReadyH.nil
            go_simp
            refine hK.out _ _ ?_ (fun hHeld => ?_)
            · (first | exact HSY.out _ B13.out | exact HSY.out _ (B13.out.set_ TT.out.lo _) | exact HSY.out _ (TT.out.bl.trans_ (by repeat' (first | exact Bl.refl _ | with_reducible assumption | with_reducible refine Bl.drew_ ?_ | with_reducible refine Bl.drewN_ ?_ _ | with_reducible refine Bl.alloc_ ?_ _ | with_reducible refine Bl.trans_ ?_ (by assumption) | with_reducible refine Bl.trans_ ?_ (And.left (by assumption))))))
            clear hK K
            try simp only [Act.put, List.getElem_toArray, List.getElem_cons_succ, List.getElem_cons_zero, List.setIfInBounds_toArray, List.set_cons_zero, List.set_cons_succ]
            refine wpAnyH_done (by kernel_rfl) ?_ _
          rotate_left
          focus
            go_simp
            refine hK.out _ _ ?_ (fun hHeld => ?_)
            · (first | exact HSY.out _ B13.out | exact HSY.out _ (B13.out.set_ TT.out.lo _) | exact HSY.out _ (TT.out.bl.trans_ (by repeat' (first | exact Bl.refl _ | with_reducible assumption | with_reducible refine Bl.drew_ ?_ | with_reducible refine Bl.drewN_ ?_ _ | with_reducible refine Bl.alloc_ ?_ _ | with_reducible refine Bl.trans_ ?_ (by assumption) | with_reducible refine Bl.trans_ ?_ (And.left (by assumption))))))
            clear hK K
            try simp only [Act.put, List.getElem_toArray, List.getElem_cons_succ, List.getElem_cons_zero, List.setIfInBounds_toArray, List.set_cons_zero, List.set_cons_succ]
            refine wpAnyH_ready (rs := [1]) (by kernel_rfl) (by simp) ?_
            refine AllReadyH.cons rfl (fun K hK => ?_) AllReadyH.nil
            go_simp
            refine hK.out _ _ ?_ (fun hHeld => ?_)
            · (first | exact HSY.out _ B13.out | exact HSY.out _ (B13.out.set_ TT.out.lo _) | exact HSY.out _ (TT.out.bl.trans_ (by repeat' (first | exact Bl.refl _ | with_reducible assumption | with_reducible refine Bl.drew_ ?_ | with_reducible refine Bl.drewN_ ?_ _ | with_reducible refine Bl.alloc_ ?_ _ | with_reducible refine Bl.trans_ ?_ (by assumption) | with_reducible refine Bl.trans_ ?_ (And.left (by assumption))))))
            clear hK K
            try simp only [Act.put, List.getElem_toArray, List.getElem_cons_succ, List.getElem_cons_zero, List.setIfInBounds_toArray, List.set_cons_zero, List.set_cons_succ]
            refine wpAnyH_ready (rs := [6]) (by kernel_rfl) (by simp) ?_
            refine AllReadyH.cons rfl (fun K hK => ?_) AllReadyH.nil
            refine step_append_own _ rfl (.tmp 27) (.tmp 31) 24 rfl (rb + 1) 2 i0 _ 1 8 Try.underlying24 I0.out I1.out I2.out I3.out rfl (by decide) _ V.length (csI V) rfl (OwnN.bl TT.out.own (by repeat' (first | exact Bl.refl _ | with_reducible assumption | with_reducible refine Bl.drew_ ?_ | with_reducible refine Bl.drewN_ ?_ _ | with_reducible refine Bl.alloc_ ?_ _ | with_reducible refine Bl.trans_ ?_ (by assumption) | with_reducible refine Bl.trans_ ?_ (And.left (by assumption))))) ⟨wr.heap.size, 0, none⟩ 1 1 [.int .i64 d] rfl rfl (new1 _ _ _) (one1 _) (by unfold maxLen; omega) (by omega) (by simp; omega) ?_; intro v13 w13 hown2 hg2; have O2 := Lib.hid (OwnN.snoc (V := V) (x := d) rfl hown2); have U := Lib.hid ((TT.out.bl_ (by repeat' (first | exact Bl.refl _ | with_reducible assumption | with_reducible refine Bl.drew_ ?_ | with_reducible refine Bl.drewN_ ?_ _ | with_reducible refine Bl.alloc_ ?_ _ | with_reducible refine Bl.trans_ ?_ (by assumption) | with_reducible refine Bl.trans_ ?_ (And.left (by assumption))))).app hg2 O2.out); have b00 := (TT.out.bl_ (by repeat' (first | exact Bl.refl _ | with_reducible assumption | with_reducible refine Bl.drew_ ?_ | with_reducible refine Bl.drewN_ ?_ _ | with_reducible refine Bl.alloc_ ?_ _ | with_reducible refine Bl.trans_ ?_ (by assumption) | with_reducible refine Bl.trans_ ?_ (And.left (by assumption))))).grown_ hg2; have B13 := Lib.hid b00.2; obtain ⟨AA, cc, rfl, -, -⟩ := OwnN.shape O2.out; have d0 := b00.1.cell (i := 0) (by omega); have d1 := b00.1.frozen 0; clear hown2 hg2 b00
            refine hK.out _ _ ?_ (fun hHeld => ?_)
            · (first | exact HSY.out _ B13.out | exact HSY.out _ (B13.out.set_ TT.out.lo _) | exact HSY.out _ (TT.out.bl.trans_ (by repeat' (first | exact Bl.refl _ | with_reducible assumption | with_reducible refine Bl.drew_ ?_ | with_reducible refine Bl.drewN_ ?_ _ | with_reducible refine Bl.alloc_ ?_ _ | with_reducible refine Bl.trans_ ?_ (by assumption) | with_reducible refine Bl.trans_ ?_ (And.left (by assumption))))))
            clear hK K
            try simp only [Act.put, List.getElem_toArray, List.getElem_cons_succ, List.getElem_cons_zero, List.setIfInBounds_toArray, List.set_cons_zero, List.set_cons_succ]
            refine wpAnyH_take (i := 7) (v := ?_) rfl (by kernel_rfl) (by kernel_rfl) (by kernel_rfl) (fun _ _ _ h => h) (Or.inl ⟨by kernel_rfl, ?_⟩) (by assumption) ?_
            rotate_left
            · (intro wx hSw; (try dsimp only at hSw); go_simp; try (with_reducible rfl))
            try simp only [Act.put, List.getElem_toArray, List.getElem_cons_succ, List.getElem_cons_zero, List.setIfInBounds_toArray, List.set_cons_zero, List.set_cons_succ]
            refine wpAnyH_ready (rs := [8]) (by kernel_rfl) (by simp) ?_
            refine AllReadyH.cons rfl (fun K hK => ?_) AllReadyH.nil
            go_simp
            refine hK.out _ _ ?_ (fun hHeld => ?_)
            · (first | exact HSY.out _ B13.out | exact HSY.out _ (B13.out.set_ TT.out.lo _) | exact HSY.out _ (TT.out.bl.trans_ (by repeat' (first | exact Bl.refl _ | with_reducible assumption | with_reducible refine Bl.drew_ ?_ | with_reducible refine Bl.drewN_ ?_ _ | with_reducible refine Bl.alloc_ ?_ _ | with_reducible refine Bl.trans_ ?_ (by assumption) | with_reducible refine Bl.trans_ ?_ (And.left (by assumption))))))
            clear hK K
            try simp only [Act.put, List.getElem_toArray, List.getElem_cons_succ, List.getElem_cons_zero, List.setIfInBounds_toArray, List.set_cons_zero, List.set_cons_succ]
            refine wpAnyH_done (by kernel_rfl) ?_ _
          rotate_left
          refine NoOut.normal ?_
          all_goals (try refine NoOut.normal ?_)
          all_goals (gi_wp2_with fail; go_roundw)
          all_goals (first | (case measure => (simp [intOf]; omega)) | skip)
          all_goals (have hl2 : (V ++ [d]).length = V.length + 1 := by simp)
          all_goals (rw [hl2] at U)
          all_goals (refine ⟨t + 1, .slice AA (V.length + 1) cc, by omega, by go_num, ?_⟩; rw [STT.out]; exact U.out)
        · obtain rfl : t = kT := by omega
          have HR := Lib.hid (show matRow q L (T.take t) s = matRow q L T s from by rw [List.take_of_length_le (by have := HTL.out; omega)])
          rw [HR.out] at TT hT2
          obtain ⟨A5, c5, rfl, -, -, -, -⟩ := OwnN.shape hT2.own
          obtain ⟨lr, hlr⟩ : ∃ l, l = (matRow q L T s).length := ⟨_, rfl⟩
          rw [← hlr] at c0 TT
          have hNX : NextRow q L F T pre (A5, lr, c5) wq wr := by
            have hp : pre.length < F.length := by have := HP.out; omega
            refine ⟨hp, ?_⟩
            have e : F[pre.length] = s := by rw [HSK.out]; congr 1
            rw [e]
            exact OwnN.low TT.out.own (by have := B5.out.size; omega)
          have BQ : Bl wq wr := B5.out.trans_ TT.out.bl
          obtain ⟨fn, tmps, assign, body, hy, hR⟩ := HY.out pre (A5, lr, c5) wq wr J1.out BQ hNX
          dsimp only [encR, slV] at hy
          have BQ' := Lib.hid BQ
          clear hlr hT2 hNX BQ hlo hrl f0
          gi_wp2_with fail
          refine ⟨rfl, hR.mono ?_⟩
          rintro e W3 ⟨ht3, rfl, hJ3⟩
          have J3 := Lib.hid hJ3
          have T3 := Lib.hid ht3
          clear ht3 hJ3
          gi_wp2_with fail
          go_roundw
          case rel =>
            refine ⟨k + 1, pre ++ [(A5, lr, c5)], by omega, by go_num, Lib.hid (by rw [List.length_append, HP.out]; rfl), J3, ?_⟩
            exact (ST.out.bl BQ'.out).trans T3.out (fun i _ h => h)
          case measure => simp [intOf]; omega
    · obtain rfl : k = kF := by omega
      gi_wp2_with fail
      go_end0
      exact ⟨⟨_, rfl⟩, ST.out, pre, by unfold AllRow; rw [HP.out, HFL.out], J1.out⟩

end Go.Proofs.Ytlddileiecnkjaa

set_option linter.unusedSimpArgs false
set_option linter.unusedVariables false
namespace Go.Proofs.Ytlddileiecnkjaa
open Go.RowKit Go.Shelf
attribute [local go_sem] Oper.semAt_some


set_option maxRecDepth 100000 in
set_option maxHeartbeats 8000000 in
theorem appendRows_any (q : Nat) (fb gb tb : Nat) (A : Option Addr) (n c : Nat) (L : List Arc3) (hn : n = L.length) (hc : n ≤ c) (ho : okB (q : Int) L = true) (AF : Option Addr) (kF cF : Nat) (F : List Int) (hF : kF = F.length) (hFn : ∀ v ∈ F, 0 ≤ v ∧ v < (q : Int)) (AT : Option Addr) (kT cT : Nat) (T : List Int) (hT : kT = T.length) (hTn : ∀ v ∈ T, 0 ≤ v ∧ v < (q : Int))
    (hkF : kF ≤ 60) (hkT : kT ≤ 60) (w : World) (hI : MIn w fb gb tb q A n c L AF kF cF F AT kT cT T) :
    Calls Try.prog 133 #[.slice none 0 0, .func (.func 134) #[] #[.pointer (some ⟨fb, 0, none⟩), .pointer (some ⟨gb, 0, none⟩), .pointer (some ⟨tb, 0, none⟩)]] w (RowsLeft (matR q L F T) w) := by
  obtain ⟨j0, hj, hy0, hy1, hy2⟩ := info_parts infoRow
  have J0 := Lib.hid hj
  have J1 := Lib.hid hy0
  have J2 := Lib.hid hy1
  have J3 := Lib.hid hy2
  have HFL := Lib.hid hF
  have HI := Lib.hid hI
  have RW := Lib.hid (fun w1 h => rows_walk q fb gb tb A n c L hn hc ho AF kF cF F hF hFn AT kT cT T hT hTn hkF hkT w1 h)
  clear hn ho hF hFn hT hTn hI hj hy0 hy1 hy2 hc
  refine (callsIn_wide (n := 0)).1 ?_
  refine callsIn_of_wp_marks Try.func133 rfl trivial ?_ rfl
  simp only [Try.ntmps133, List.size_toArray, List.length_cons, List.length_nil, Nat.reduceAdd, Nat.reduceSub, Array.replicate_succ, Array.replicate_zero, List.push_toArray, List.append_toArray, List.nil_append, List.cons_append]
  gi_wp2_with fail
  obtain ⟨bs, hbs⟩ : ∃ b, b = w.heap.size := ⟨_, rfl⟩
  obtain ⟨w1, hw1⟩ : ∃ x, x = w.alloc (.cells #[.slice none 0 0] 44) := ⟨_, rfl⟩
  have B1 := Lib.hid (show Bl w w1 from by rw [hw1]; exact (Bl.refl w).alloc_ _)
  have s1 : w1.heap.size = bs + 1 := by rw [hw1, hbs]; simp
  have bx := (show w1.cell? ⟨bs, 0, none⟩ = some (.slice none 0 0) ∧ w1.frozen? ⟨bs, 0, none⟩ = false from by rw [hw1, hbs]; exact ⟨by simp [go_sem], by simp [go_sem]⟩)
  have BX := Lib.hid bx
  have hmin := HI.out.turn (Turn.of_bl (S := fun _ => False) B1.out) (fun _ h => h.elim)
  have HM := Lib.hid hmin
  have HLT := Lib.hid (show ∀ i, mBlocks fb gb tb A L AF F AT T i → i < bs from fun i hi => by rw [hbs]; exact HI.out.lt hi)
  rw [← hw1, ← hbs]
  have HW := Lib.hid hbs
  clear hw1 hbs bx
  refine wpIn_rangeB (gf := 134) (lb := #[.pointer (some ⟨fb, 0, none⟩), .pointer (some ⟨gb, 0, none⟩), .pointer (some ⟨tb, 0, none⟩)]) ?e1 ?e2
    (RW.out w1 hmin) (Bl.refl _) (fun i hi => HM.out.lt hi) ?e3
    (fun pre W' => ∃ v, (W'.cell? ⟨bs, 0, none⟩ = some v ∧ W'.frozen? ⟨bs, 0, none⟩ = false) ∧ RowsG W' (w1.heap.size + 2) v pre (matR q L (F.take pre.length) T))
    (fun pre x a W' => ∃ xb v, ∃ z0 z1 z3 z4 z6 z7 z8 z9 z10 z11 z12 : Value, (W'.cell? ⟨bs, 0, none⟩ = some v ∧ W'.frozen? ⟨bs, 0, none⟩ = false) ∧ RowsG W' (w1.heap.size + 2) v pre (matR q L (F.take pre.length) T) ∧
      (w1.heap.size + 2 ≤ xb ∧ W'.cell? ⟨xb, 0, none⟩ = some (slV x)) ∧ (∃ h : pre.length < F.length, OwnN W' (w1.heap.size + 2) (slV x) (matRow q L T F[pre.length])) ∧
      (∀ g, (slV x).ownBlock = some g → v.ownBlock ≠ some g ∧ ∀ j (h : j < pre.length), (slV pre[j]).ownBlock ≠ some g) ∧
      a = { tmps := #[z0, z1, .pointer (some ⟨bs, 0, none⟩), z3, z4, .pointer (some ⟨xb, 0, none⟩), z6, z7, z8, z9, z10, z11, z12], defers := [] })
    (fun i => i = bs) ?hT ?hI ?hM ?h0 ?assign ?body ?hTl ?done
  case e1 => rfl
  case e2 => exact enters_of Try.func134 (by kernel_rfl) rfl
  case e3 => exact fun x => rfl
  case hT => exact fun i hi hm => by have := HLT.out i hm; omega
  case hTl => exact fun i hi => by omega
  case h0 =>
    intro W hW
    refine ⟨_, ⟨((bcell hW).1 _ _ (by omega)).trans BX.out.1, ((bcell hW).2 _ _ (by omega)).trans BX.out.2⟩, ?_⟩
    exact RowsG.nil_ _ _ (Owns.nil_ _ _ _ _)
  case hI =>
    rintro pre X Y ⟨v, ⟨h1, h2⟩, h3⟩ hX ht
    obtain ⟨e1, e2⟩ := ht.cells (show bs < X.heap.size by omega) (by omega) 0
    exact ⟨v, ⟨e1.trans h1, e2.trans h2⟩, h3.turn ht (fun g hg _ => by omega)⟩
  case hM =>
    rintro pre x a X Y ⟨xb, v, z0, z1, z3, z4, z6, z7, z8, z9, z10, z11, z12, ⟨h1, h2⟩, h3, ⟨h4, h5⟩, ⟨h6, h7⟩, h8, he⟩ hX ht
    obtain ⟨e1, e2⟩ := ht.cells (show bs < X.heap.size by omega) (by omega) 0
    have hx := World.block_lt_of_cell? _ _ h5
    exact ⟨xb, v, z0, z1, z3, z4, z6, z7, z8, z9, z10, z11, z12, ⟨e1.trans h1, e2.trans h2⟩, h3.turn ht (fun g hg _ => by omega), ⟨h4, (ht.cells hx (by show ¬ (xb = _); omega) 0).1.trans h5⟩, ⟨h6, Owns.turn h7 ht (fun g hg e => by have := (Owns.lt h7 g hg).1; omega)⟩, h8, he⟩
  case assign =>
    rintro pre ⟨xa, xn, xc⟩ X Y R ⟨v, ⟨h1, h2⟩, h3⟩ hX hXY ⟨hp, hown⟩ hR l
    have HC := Lib.hid h1
    have HC2 := Lib.hid h2
    have H3 := Lib.hid h3
    have HO := Lib.hid hown
    have HR := Lib.hid hR
    have HB := Lib.hid hXY
    clear h1 h2 h3 hown hR hXY
    dsimp only [encR, slV]
    gi_wp2_with fail
    have BN : Bl Y (Y.alloc (.cells #[.slice xa xn xc] 58)) := (by repeat' (first | exact Bl.refl _ | with_reducible assumption | with_reducible refine Bl.drew_ ?_ | with_reducible refine Bl.drewN_ ?_ _ | with_reducible refine Bl.alloc_ ?_ _ | with_reducible refine Bl.trans_ ?_ (by assumption) | with_reducible refine Bl.trans_ ?_ (And.left (by assumption))))
    have hXN := HB.out.trans_ BN
    have sXY := HB.out.size
    refine HR.out _ _ BN ⟨Y.heap.size, v, _, _, _, _, _, _, _, _, _, _, _, ⟨((bcell hXN).1 _ _ (by omega)).trans HC.out, ((bcell hXN).2 _ _ (by omega)).trans HC2.out⟩, H3.out.bl hXN, ⟨by omega, by simp [go_sem, slV]⟩, ⟨hp, Owns.bl (Owns.low HO.out (by omega)) BN⟩, ?_, rfl⟩
    intro g hg
    have h1 := (Owns.lt HO.out g hg).1
    refine ⟨fun h => ?_, fun j hj h => ?_⟩
    · have h2 := Owns.lt H3.out.own g h; omega
    · have h2 := H3.out.lt hj h; omega
  case body =>
    rintro l pre ⟨xa, xn, xc⟩ a₁ X hX ⟨xb, v, z0, z1, z3, z4, z6, z7, z8, z9, z10, z11, z12, ⟨h1, h2⟩, h3, ⟨h4, h5⟩, ⟨hp, h7⟩, h8, rfl⟩
    have STK := Lib.hid (matR_take q L F T hp)
    have hplen : pre.length < 60 := by have := HFL.out; omega
    have hl0 : pre.length = (matR q L (F.take pre.length) T).length := by rw [matR_len, List.length_take]; omega
    have R3 := Lib.hid h3
    have H7 := Lib.hid h7
    have H8 := Lib.hid h8
    obtain ⟨j, hj⟩ : ∃ j, j = pre.length := ⟨_, rfl⟩
    have OC := Lib.hid (show Owns 58 1 X (w1.heap.size + 2) v j (pre.map slV) from by rw [hj]; exact h3.own)
    have HJ := Lib.hid hj
    have hj60 : j < 60 := by omega
    have hxl := World.block_lt_of_cell? _ _ h5
    simp only [slV] at h5 hxl
    have S1 := Lib.hid s1
    have hbX : bs < X.heap.size := by omega
    clear h3 h7 h8 hj hl0 hplen s1
    gi_wp2_with (refine wpListIn_append_any _ rfl (.tmp 8) (.tmp 10) 44 rfl (w1.heap.size + 2) 58 j0 _ 1 24 Try.underlying44 J0.out J1.out J2.out J3.out rfl (by decide) _ j (pre.map slV) rfl (World.ownsRow.alloc OC.out _) (X.heap.size + 1) (some ⟨X.heap.size, 0, none⟩) 1 1 [.slice xa xn xc] rfl ?c0 (by simp [Value.oneCell']) ?c3 ?c4 ?c5 ?_)
    case c0 =>
      refine ⟨rfl, fun _ => ⟨_, rfl, by show X.heap.size < X.heap.size + 1; omega, fun x u hj => ?_⟩⟩
      match x, hj with
      | 0, hj => simp at hj; subst hj; simp [Addr.add, go_sem]
      | (x + 1), hj => simp at hj
    case c3 => unfold maxLen; omega
    case c4 => omega
    case c5 => simp; omega
    intro v' w8 hown' hgrow hwh
    have BA : Bl X (X.alloc (.cells #[.slice xa xn xc] 58)) := Bl.alloc_ (Bl.refl _) _
    have hOwnlt := Owns.lt R3.out.own
    have R8 := Lib.hid (RowsG.snoc (R := matR q L (F.take pre.length) T) (r := matRow q L T F[pre.length]) (x := (xa, xn, xc)) (k := j) (R3.out.bl BA) (Owns.bl H7.out BA) H8.out HJ.out hown' hgrow (by simpa using hwh))
    rw [← STK.out] at R8
    have T8 := Lib.hid (show Turn (fun i => i = bs ∨ w1.heap.size + 2 ≤ i) X w8 from (Turn.of_bl BA).trans (Turn.of_grown (S := fun i => i = bs ∨ w1.heap.size + 2 ≤ i) hgrow (fun g hg => .inr (hOwnlt g hg).1)) (fun i _ h => h))
    have hbo : ∀ o, w8.cell? ⟨bs, o, none⟩ = X.cell? ⟨bs, o, none⟩ ∧ w8.frozen? ⟨bs, o, none⟩ = X.frozen? ⟨bs, o, none⟩ := fun o => by
      obtain ⟨e1, e2⟩ := bcell BA
      have hb : w8.heap[bs]? = (X.alloc (.cells #[.slice xa xn xc] 58)).heap[bs]? := hgrow.block bs (by simp; omega) (fun e => by have := hOwnlt bs e.symm; have := S1.out; omega)
      exact ⟨(World.cell?_of_block (a := ⟨bs, o, none⟩) hb).trans (e1 _ _ (by omega)), (World.frozen?_of_block (a := ⟨bs, o, none⟩) hb).trans (e2 _ _ (by omega))⟩
    obtain ⟨c8, f8⟩ := hbo 0
    rw [h1] at c8
    rw [h2] at f8
    have hwb : ∀ g, v'.ownBlock = some g → w1.heap.size + 2 ≤ g := fun g hg => (Owns.lt R8.out.own g hg).1
    clear hown' hgrow hwh BA hOwnlt hbo hwb
    obtain ⟨Av, cv, ev⟩ := R8.out.slice
    obtain ⟨lv, hlv⟩ : ∃ l, l = (matR (↑q) L (F.take (pre.length + 1)) T).length := ⟨_, rfl⟩
    rw [← hlv] at ev
    clear hlv
    subst ev
    gi_wp2_with fail
    refine ⟨T8.out.set (p := ⟨bs, 0, none⟩) (.inl (.inl rfl)) _, ?_⟩
    exact R8.out.turn (Turn.set (p := ⟨bs, 0, none⟩) (S := fun i => i = bs) (Turn.refl _ _) (.inl rfl) _) (fun g hg _ => by have := S1.out; omega)
  case done =>
    rintro D xs W hD hall ⟨v, ⟨h1, h2⟩, h3⟩ hT hdef
    have H3 := Lib.hid h3
    have HD := Lib.hid hdef
    have HT := Lib.hid hT
    have HA := Lib.hid (show F.take xs.length = F from List.take_of_length_le (by unfold AllRow at hall; omega))
    clear h3 hdef hT hall h2
    gi_wp2_with fail
    refine ⟨by simp, .inl ⟨_, _, rfl, run_takeDeferred HD.out, ?_⟩⟩
    refine ⟨v, by simp [results, Try.results133, go_sem], v, xs, rfl, ?_, ?_⟩
    · have h := H3.out
      rw [HA.out] at h
      exact (h.turn (turn_put (fun i => i = D) W (.deferred none) rfl) (fun g hg _ => by omega)).low (by have := B1.out.size; omega)
    · refine Turn.to_bl (Turn.to_bl B1.out HT.out (fun i hi => ?_)) (turn_put (fun i => i = D) W (.deferred none) rfl) (fun i hi => ?_)
      · have := HW.out; omega
      · have := B1.out.size; omega

set_option maxHeartbeats 2000000 in
theorem collectRows_any (q : Nat) (fb gb tb : Nat) (A : Option Addr) (n c : Nat) (L : List Arc3) (hn : n = L.length) (hc : n ≤ c) (ho : okB (q : Int) L = true) (AF : Option Addr) (kF cF : Nat) (F : List Int) (hF : kF = F.length) (hFn : ∀ v ∈ F, 0 ≤ v ∧ v < (q : Int)) (AT : Option Addr) (kT cT : Nat) (T : List Int) (hT : kT = T.length) (hTn : ∀ v ∈ T, 0 ≤ v ∧ v < (q : Int))
    (hkF : kF ≤ 60) (hkT : kT ≤ 60) (w : World) (hI : MIn w fb gb tb q A n c L AF kF cF F AT kT cT T) :
    Calls Try.prog 92 #[.func (.func 134) #[] #[.pointer (some ⟨fb, 0, none⟩), .pointer (some ⟨gb, 0, none⟩), .pointer (some ⟨tb, 0, none⟩)]] w (RowsLeft (matR q L F T) w) := by
  have C := Lib.hid (appendRows_any q fb gb tb A n c L hn hc ho AF kF cF F hF hFn AT kT cT T hT hTn hkF hkT w hI)
  clear hn hc ho hF hFn hT hTn hI
  go_enter Try.func92, Try.ntmps92
  go_wp2_with fail
  refine C.out.mono ?_
  rintro e w1 ⟨v, G, rfl, hv, hb⟩
  have V := Lib.hid hv
  have B := Lib.hid hb
  clear hv hb
  go_wp2
  go_ret
  exact ⟨v, G, rfl, V.out, B.out⟩

set_option maxHeartbeats 2000000 in
theorem rowsTo_any (N : Int) (A : Option Addr) (n c : Nat) (AF : Option Addr) (kF cF : Nat) (AT : Option Addr) (kT cT : Nat) (w : World) :
    Calls Try.prog 93 #[.agg #[.int .i64 N, .slice A n c], .slice AF kF cF, .slice AT kT cT] w fun e w' =>
      e = .returned (.func (.func 134) #[] #[.pointer (some ⟨w.heap.size + 1, 0, none⟩), .pointer (some ⟨w.heap.size, 0, none⟩), .pointer (some ⟨w.heap.size + 2, 0, none⟩)]) ∧
      w' = ((w.alloc (.cells #[.int .i64 N, .slice A n c] 33)).alloc (.cells #[.slice AF kF cF] 24)).alloc (.cells #[.slice AT kT cT] 24) := by
  go_enter Try.func93, Try.ntmps93
  go_wp2
  go_ret
  exact ⟨rfl, rfl⟩

set_option maxRecDepth 100000 in
set_option maxHeartbeats 4000000 in
theorem implMatrix_any (N : Int) (A : Option Addr) (n c : Nat) (L : List Arc3) (hn : n = L.length) (hc : n ≤ c) (AF : Option Addr) (kF cF : Nat) (F : List Int) (hF : kF = F.length) (AT : Option Addr) (kT cT : Nat) (T : List Int) (hT : kT = T.length) (w : World) (hm : n ≤ 1048576) (hkF : kF ≤ 1048576) (hkT : kT ≤ 1048576)
    (H1 : ArcsAt w w.heap.size A L) (H2 : IntsAt w w.heap.size AF F) (H3 : IntsAt w w.heap.size AT T) :
    Calls Try.prog 29 #[.agg #[.int .i64 N, .slice A n c], .slice AF kF cF, .slice AT kT cT] w (RowsLeft (matL N L F T) w) := by
  have K1 := Lib.hid H1
  have K2 := Lib.hid H2
  have K3 := Lib.hid H3
  have HN := Lib.hid hn
  have HF := Lib.hid hF
  have HT := Lib.hid hT
  clear H1 H2 H3 hn hF hT
  have nil_ : ∀ wx, Bl w wx → matL N L F T = [] → RowsLeft (matL N L F T) w (.returned (.slice none 0 0)) wx := fun wx hb e => by
    rw [e]; exact ⟨_, [], rfl, RowsG.nil_ _ _ (Owns.nil_ _ _ _ _), hb⟩
  have NIL := Lib.hid nil_
  clear nil_
  by_cases h60 : (60 : Int) < (kF : Int)
  · have HM := Lib.hid (show matL N L F T = [] from matL_no (by have := HF.out; unfold matB nodesB; rw [decide_eq_false (show ¬ F.length ≤ 60 by omega)]; simp))
    go_enter Try.func29, Try.ntmps29
    go_wp2
    go_ret
    exact NIL.out _ (by repeat' (first | exact Bl.refl _ | with_reducible assumption | with_reducible refine Bl.drew_ ?_ | with_reducible refine Bl.drewN_ ?_ _ | with_reducible refine Bl.alloc_ ?_ _ | with_reducible refine Bl.trans_ ?_ (by assumption) | with_reducible refine Bl.trans_ ?_ (And.left (by assumption)))) HM.out
  · have b1 : decide ((60 : Int) < (kF : Int)) = false := by simpa using h60
    by_cases h61 : (60 : Int) < (kT : Int)
    · have HM := Lib.hid (show matL N L F T = [] from matL_no (by have := HT.out; unfold matB nodesB; rw [decide_eq_false (show ¬ T.length ≤ 60 by omega)]; simp))
      have b2 : decide ((60 : Int) < (kT : Int)) = true := by simpa using h61
      go_enter Try.func29, Try.ntmps29
      go_wp2
      go_ret
      exact NIL.out _ (by repeat' (first | exact Bl.refl _ | with_reducible assumption | with_reducible refine Bl.drew_ ?_ | with_reducible refine Bl.drewN_ ?_ _ | with_reducible refine Bl.alloc_ ?_ _ | with_reducible refine Bl.trans_ ?_ (by assumption) | with_reducible refine Bl.trans_ ?_ (And.left (by assumption)))) HM.out
    · have b2 : decide ((60 : Int) < (kT : Int)) = false := by simpa using h61
      have hB : ∀ V : List Int, V.length ≤ 60 → hasB N L V = (okB N L && nodesB N V) := fun V hV => by unfold hasB nodesB; rw [decide_eq_true hV, Bool.and_true]
      have HBF := Lib.hid (hB F (by have := HF.out; omega))
      have HBT := Lib.hid (hB T (by have := HT.out; omega))
      clear hB
      cases hbF : hasB N L F with
      | false =>
        have HX := Lib.hid hbF
        have HM := Lib.hid (show matL N L F T = [] from matL_no (by
          rw [HBF.out] at hbF
          unfold matB
          cases h : okB N L
          · rfl
          · rw [h, Bool.true_and] at hbF
            rw [hbF]; simp))
        clear hbF
        go_enter Try.func29, Try.ntmps29
        go_wp2_with fail
        refine (hasNodes_any N A n c L HN.out AF kF cF F HF.out _ (by omega) hkF (K1.out.bl (by repeat' (first | exact Bl.refl _ | with_reducible assumption | with_reducible refine Bl.drew_ ?_ | with_reducible refine Bl.drewN_ ?_ _ | with_reducible refine Bl.alloc_ ?_ _ | with_reducible refine Bl.trans_ ?_ (by assumption) | with_reducible refine Bl.trans_ ?_ (And.left (by assumption))))) (K2.out.bl (by repeat' (first | exact Bl.refl _ | with_reducible assumption | with_reducible refine Bl.drew_ ?_ | with_reducible refine Bl.drewN_ ?_ _ | with_reducible refine Bl.alloc_ ?_ _ | with_reducible refine Bl.trans_ ?_ (by assumption) | with_reducible refine Bl.trans_ ?_ (And.left (by assumption)))))).mono ?_
        rintro e w1 ⟨rfl, hb1⟩
        rw [HX.out]
        go_wp2
        go_ret
        exact NIL.out _ (by repeat' (first | exact Bl.refl _ | with_reducible assumption | with_reducible refine Bl.drew_ ?_ | with_reducible refine Bl.drewN_ ?_ _ | with_reducible refine Bl.alloc_ ?_ _ | with_reducible refine Bl.trans_ ?_ (by assumption) | with_reducible refine Bl.trans_ ?_ (And.left (by assumption)))) HM.out
      | true =>
        have HX := Lib.hid hbF
        cases hbT : hasB N L T with
        | false =>
          have HY := Lib.hid hbT
          have HM := Lib.hid (show matL N L F T = [] from matL_no (by
            rw [HBT.out] at hbT
            unfold matB
            cases h : okB N L
            · rfl
            · rw [h, Bool.true_and] at hbT
              rw [hbT]; simp))
          clear hbF hbT
          go_enter Try.func29, Try.ntmps29
          go_wp2_with fail
          refine (hasNodes_any N A n c L HN.out AF kF cF F HF.out _ (by omega) hkF (K1.out.bl (by repeat' (first | exact Bl.refl _ | with_reducible assumption | with_reducible refine Bl.drew_ ?_ | with_reducible refine Bl.drewN_ ?_ _ | with_reducible refine Bl.alloc_ ?_ _ | with_reducible refine Bl.trans_ ?_ (by assumption) | with_reducible refine Bl.trans_ ?_ (And.left (by assumption))))) (K2.out.bl (by repeat' (first | exact Bl.refl _ | with_reducible assumption | with_reducible refine Bl.drew_ ?_ | with_reducible refine Bl.drewN_ ?_ _ | with_reducible refine Bl.alloc_ ?_ _ | with_reducible refine Bl.trans_ ?_ (by assumption) | with_reducible refine Bl.trans_ ?_ (And.left (by assumption)))))).mono ?_
          rintro e w1 ⟨rfl, hb1⟩
          rw [HX.out]
          obtain ⟨q0, q1⟩ := box2 hb1
          have B1 := Lib.hid ((Bl.alloc_ (Bl.refl w) _).trans_ hb1)
          clear hb1
          go_wp2_with fail
          refine (hasNodes_any N A n c L HN.out AT kT cT T HT.out _ (by omega) hkT (K1.out.bl B1.out) (K3.out.bl B1.out)).mono ?_
          rintro e w2 ⟨rfl, hb2⟩
          rw [HY.out]
          have B2 := Lib.hid (B1.out.trans_ hb2)
          clear hb2
          go_wp2
          go_ret
          exact NIL.out _ B2.out HM.out
        | true =>
          have HY := Lib.hid hbT
          have h1 := HBF.out
          have h2 := HBT.out
          rw [hbF] at h1
          rw [hbT] at h2
          have h1' := (Bool.and_eq_true _ _).mp h1.symm
          have h2' := (Bool.and_eq_true _ _).mp h2.symm
          obtain ⟨ho, hnF⟩ := h1'
          obtain ⟨-, hnT⟩ := h2'
          have HM := Lib.hid (show matL N L F T = matR N L F T from matL_yes (by unfold matB; rw [ho, hnF, hnT]; rfl))
          have HO := Lib.hid ho
          have hN1 := (okB_elim ho).1
          have FN := Lib.hid (nodesB_elim hnF).1
          have TN := Lib.hid (nodesB_elim hnT).1
          clear hbF hbT h1 h2 ho hnF hnT HBF HBT
          obtain ⟨q, rfl⟩ : ∃ q : Nat, N = q := ⟨N.toNat, by omega⟩
          go_enter Try.func29, Try.ntmps29
          go_wp2_with fail
          refine (hasNodes_any q A n c L HN.out AF kF cF F HF.out _ (by omega) hkF (K1.out.bl (by repeat' (first | exact Bl.refl _ | with_reducible assumption | with_reducible refine Bl.drew_ ?_ | with_reducible refine Bl.drewN_ ?_ _ | with_reducible refine Bl.alloc_ ?_ _ | with_reducible refine Bl.trans_ ?_ (by assumption) | with_reducible refine Bl.trans_ ?_ (And.left (by assumption))))) (K2.out.bl (by repeat' (first | exact Bl.refl _ | with_reducible assumption | with_reducible refine Bl.drew_ ?_ | with_reducible refine Bl.drewN_ ?_ _ | with_reducible refine Bl.alloc_ ?_ _ | with_reducible refine Bl.trans_ ?_ (by assumption) | with_reducible refine Bl.trans_ ?_ (And.left (by assumption)))))).mono ?_
          rintro e w1 ⟨rfl, hb1⟩
          rw [HX.out]
          obtain ⟨q0, q1⟩ := box2 hb1
          have B1 := Lib.hid ((Bl.alloc_ (Bl.refl w) _).trans_ hb1)
          have X1 := Lib.hid hb1
          clear hb1
          go_wp2_with fail
          refine (hasNodes_any q A n c L HN.out AT kT cT T HT.out _ (by omega) hkT (K1.out.bl B1.out) (K3.out.bl B1.out)).mono ?_
          rintro e w2 ⟨rfl, hb2⟩
          rw [HY.out]
          obtain ⟨q0, q1⟩ := box2 (X1.out.trans_ hb2)
          have B2 := Lib.hid (B1.out.trans_ hb2)
          clear hb2
          go_wp2_with fail
          refine (rowsTo_any q A n c AF kF cF AT kT cT _).mono ?_
          rintro e w3 ⟨rfl, hw3⟩
          have HW3 := Lib.hid hw3
          have B23 := Lib.hid (show Bl w2 w3 from by rw [hw3]; exact (((Bl.refl _).alloc_ _).alloc_ _).alloc_ _)
          have B3 := Lib.hid (B2.out.trans_ B23.out)
          have hIn : MIn w3 (w2.heap.size + 1) w2.heap.size (w2.heap.size + 2) q A n c L AF kF cF F AT kT cT T := by
            refine ⟨?_, ?_, ?_, ?_, K1.out.bl B3.out, K2.out.bl B3.out, K3.out.bl B3.out⟩ <;> (rw [hw3]; simp [go_sem])
          have HIN := Lib.hid hIn
          clear hw3 hIn q0 q1
          go_wp2_with fail
          refine (collectRows_any q (w2.heap.size + 1) w2.heap.size (w2.heap.size + 2) A n c L HN.out hc HO.out AF kF cF F HF.out FN.out AT kT cT T HT.out TN.out (by omega) (by omega) w3 HIN.out).mono ?_
          rintro e w4 ⟨v, G, rfl, hv, hb4⟩
          have V := Lib.hid hv
          have B4 := Lib.hid (B3.out.trans_ hb4)
          clear hv hb4
          go_wp2
          go_ret
          exact ⟨v, G, rfl, by rw [HM.out]; exact V.out.low B3.out.size, B4.out⟩

end Go.Proofs.Ytlddileiecnkjaa

set_option linter.unusedSimpArgs false
set_option linter.unusedVariables false
namespace Go.Proofs.Ytlddileiecnkjaa
open Go.RowKit



set_option maxHeartbeats 2000000 in
theorem node_any (N : Int) (v : Value) (rd : Nat) (A : Option Addr) (n c : Nat) (w : World) (hn : n ≤ 1099511627776) (h0 : -9223372036854775808 ≤ N) (h1 : N ≤ 9223372036854775807) (HR : RdAny w rd A n c) :
    Calls Try.prog 69 #[.pointer (some ⟨rd, 0, none⟩), .agg #[.int .i64 N, v]] w (RdPost In64 rd A n c w) := by
  have R := Lib.hid HR
  have hlt := HR.lt
  clear HR
  go_enter Try.func69, Try.ntmps69
  go_wp2_with fail
  refine (once_any 30 rd A n c _ hn (by omega) (by omega) (R.out.bl (Bl.alloc_ (Bl.refl w) _))).mono ?_
  rintro e w1 ⟨b, rfl, hr, hg⟩
  have R1 := Lib.hid hr
  have q0 : w1.cell? ⟨w.heap.size, 0, none⟩ = some (.int .i64 N) := hg.cell (by simp [go_sem]) (by simp; omega)
  have G1 := Lib.hid (grown_trans (bl_grown (Bl.alloc_ (Bl.refl w) _) _) hg)
  clear hr hg
  have hb := wrap64_bounds (N - 1)
  cases b with
  | true =>
    go_wp2_with fail
    refine (off_any 0 (wrap64 (N - 1)) rd A n c _ hn (by omega) (by omega) hb.1 hb.2 R1.out).mono ?_
    rintro e w2 ⟨d, hd, rfl, hr, hg⟩
    have HD := Lib.hid hd
    have R2 := Lib.hid hr
    have G2 := Lib.hid hg
    clear hr hg hd
    go_wp2
    go_ret
    exact ⟨d, HD.out, rfl, R2.out, grown_trans G1.out G2.out⟩
  | false =>
    go_wp2_with fail
    all_goals (refine (below_any _ rd A n c _ hn (by omega) R1.out).mono ?_; rintro e w2 ⟨d, hd, rfl, hr, hg⟩; have HD := Lib.hid (show In64 d from by unfold In64; omega); have R2 := Lib.hid hr; have G2 := Lib.hid hg; clear hr hg hd)
    all_goals (go_wp2; go_ret; exact ⟨d, HD.out, rfl, R2.out, grown_trans G1.out G2.out⟩)

end Go.Proofs.Ytlddileiecnkjaa

set_option linter.unusedSimpArgs false
set_option linter.unusedVariables false
namespace Go.Proofs.Ytlddileiecnkjaa
open Go.RowKit

theorem OwnA.grown_ {w w' : World} {B : Nat} {v : Value} {L : List Arc3} {row : Option Nat} (h : OwnA w B v L) (hg : w.grownBy w' row) (hne : ∀ g, row = some g → g < B) : OwnA w' B v L :=
  World.ownsRow.kept h hg (by
    cases hv : v.ownBlock with
    | none => exact .inl rfl
    | some g =>
      refine .inr fun e => ?_
      have h1 := (h.lt g hv).1
      have h2 := hne g e.symm
      omega)

/-- Two cells, in a block of their own. -/
def Two (w : World) (g : Nat) (a b : Value) : Prop := w.rowIs g 33 2 (fun i => if i = 0 then a else b)
theorem Two.new (w : World) (a b : Value) : Two (w.alloc (.cells #[a, b] 33)) w.heap.size a b :=
  World.rowIs_alloc w #[a, b] _ _ (fun i hi => by
    have : i = 0 ∨ i = 1 := by simp at hi; omega
    rcases this with rfl | rfl <;> simp)
theorem Two.facts {w : World} {g : Nat} {a b : Value} (h : Two w g a b) : w.cell? ⟨g, 0, none⟩ = some a ∧ w.cell? ⟨g, 1, none⟩ = some b ∧ w.frozen? ⟨g, 0, none⟩ = false ∧ w.frozen? ⟨g, 1, none⟩ = false :=
  ⟨h.cell (i := 0) (by omega), h.cell (i := 1) (by omega), h.frozen 0, h.frozen 1⟩
theorem Two.bl {w w' : World} {g : Nat} {a b : Value} (h : Two w g a b) (hb : Bl w w') : Two w' g a b := row_bl h hb
theorem Two.grown_ {w w' : World} {g : Nat} {a b : Value} {row : Option Nat} (h : Two w g a b) (hg : w.grownBy w' row) (hne : some g ≠ row) : Two w' g a b := World.rowIs.of_block h (hg.block g (World.rowIs.lt h) hne)
theorem Two.far {w : World} {g : Nat} {a b : Value} (h : Two w g a b) {p : Addr} (hp : g ≠ p.block) (u : Value) : Two (w.setCell p u) g a b := World.rowIs.setOther h hp u
theorem Two.set1 {w : World} {g : Nat} {a b : Value} (h : Two w g a b) (u : Value) : Two (w.setCell ⟨g, 1, none⟩ u) g a u :=
  (World.rowIs.set h 1 u).congr fun i hi => by
    have : i = 0 ∨ i = 1 := by omega
    rcases this with rfl | rfl <;> simp
theorem Two.set0 {w : World} {g : Nat} {a b : Value} (h : Two w g a b) (u : Value) : Two (w.setCell ⟨g, 0, none⟩ u) g u b :=
  (World.rowIs.set h 0 u).congr fun i hi => by
    have : i = 0 ∨ i = 1 := by omega
    rcases this with rfl | rfl <;> simp

/-- A graph of N nodes is put together in the box tb; the result's box is g0, still empty; P: the argument's box. -/
structure TS (w : World) (P : Obj) (g0 tb : Nat) (N : Int) (q : Value) (L : List Arc3) (wr : World) : Prop where
  box : Two wr tb (.int .i64 N) q
  res : Two wr g0 (.int .i64 0) (.slice none 0 0)
  own : OwnA wr (tb + 1) q L
  bl : Bl (w.alloc P) wr
  lo : w.heap.size < g0 ∧ g0 < tb
section
variable {w w2 wr : World} {P : Obj} {g0 tb : Nat} {N : Int} {q : Value} {L : List Arc3}
theorem TS.bl_ (h : TS w P g0 tb N q L wr) (hb : Bl wr w2) : TS w P g0 tb N q L w2 :=
  ⟨h.box.bl hb, h.res.bl hb, OwnA.bl h.own hb, h.bl.trans_ hb, h.lo⟩
theorem TS.grown_ (h : TS w P g0 tb N q L wr) (hg : wr.grownBy w2 q.ownBlock) {q2 : Value} {L2 : List Arc3} (ho : OwnA w2 (tb + 1) q2 L2) : Two w2 tb (.int .i64 N) q ∧ Two w2 g0 (.int .i64 0) (.slice none 0 0) ∧ Bl (w.alloc P) w2 := by
  obtain ⟨l1, l2⟩ := h.lo
  have key : ∀ g, g ≤ tb → some g ≠ q.ownBlock := fun g hg e => by
    have := (h.own.lt g e.symm).1
    omega
  exact ⟨h.box.grown_ hg (key tb (by omega)), h.res.grown_ hg (key g0 (by omega)), h.bl.grown_ hg (fun g e => by
    have := (h.own.lt g e).1
    simp
    omega)⟩
theorem TS.same (h : TS w P g0 tb N q L wr) (hg : wr.grownBy w2 q.ownBlock) {L2 : List Arc3} (ho : OwnA w2 (tb + 1) q L2) : TS w P g0 tb N q L2 w2 := by
  obtain ⟨a, b, c⟩ := h.grown_ hg ho
  exact ⟨a, b, ho, c, h.lo⟩
theorem TS.app (h : TS w P g0 tb N q L wr) (hg : wr.grownBy w2 q.ownBlock) {q2 : Value} {L2 : List Arc3} (ho : OwnA w2 (tb + 1) q2 L2) : TS w P g0 tb N q2 L2 (w2.setCell ⟨tb, 1, none⟩ q2) := by
  obtain ⟨a, b, c⟩ := h.grown_ hg ho
  obtain ⟨l1, l2⟩ := h.lo
  exact ⟨a.set1 q2, b.far (by show g0 ≠ tb; omega) q2, ho.set_ (by show tb < tb + 1; omega) q2, c.set_ (by simp; omega) q2, h.lo⟩
theorem TS.put (h : TS w P g0 tb N q L wr) {q2 : Value} {L2 : List Arc3} (ho : OwnA wr (tb + 1) q2 L2) : TS w P g0 tb N q2 L2 (wr.setCell ⟨tb, 1, none⟩ q2) := by
  obtain ⟨l1, l2⟩ := h.lo
  exact ⟨h.box.set1 q2, h.res.far (by show g0 ≠ tb; omega) q2, ho.set_ (by show tb < tb + 1; omega) q2, h.bl.set_ (by simp; omega) q2, h.lo⟩
theorem TS.fin (h : TS w P g0 tb N q L wr) (x y : Value) : OwnA ((wr.setCell ⟨g0, 0, none⟩ x).setCell ⟨g0, 1, none⟩ y) w.heap.size q L ∧ Bl w ((wr.setCell ⟨g0, 0, none⟩ x).setCell ⟨g0, 1, none⟩ y) := by
  obtain ⟨l1, l2⟩ := h.lo
  have hb : Bl w wr := (Bl.alloc_ (Bl.refl w) P).trans_ h.bl
  exact ⟨((h.own.set_ (by show g0 < tb + 1; omega) x).set_ (by show g0 < tb + 1; omega) y).low (by omega), (hb.set_ (by show w.heap.size ≤ g0; omega) x).set_ (by show w.heap.size ≤ g0; omega) y⟩
end


end Go.Proofs.Ytlddileiecnkjaa
