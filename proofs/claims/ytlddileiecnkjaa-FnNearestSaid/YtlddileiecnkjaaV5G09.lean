/-
  What is proved here: the iterator over the nearest nodes tells just those that are reached, the nearest first; how far all nodes are, as the code reckons it. No conditions beyond those that each theorem states.
-/
import Derived.Test.YtlddileiecnkjaaV5G08
import Derived.Sort.LoopGhostIn
import Derived.Outline
set_option linter.unusedSimpArgs false
set_option linter.unusedVariables false
namespace Go.Proofs.Ytlddileiecnkjaa
open Go.RowKit Go.Shelf
attribute [local go_sem] Oper.semAt_some

/-- What may come next. -/
def NextNear (N : Int) (L : List Arc3) (s : Int) (pre : List It) (x : It) : Prop := ∃ Z, AllNear N L s (pre ++ x :: Z)
def PartNear (N : Int) (L : List Arc3) (s : Int) (pre : List It) : Prop := ∃ Z, AllNear N L s (pre ++ Z)
def encI (x : It) : Array Value := #[.agg #[.int .i64 x.1, .int .i64 x.2]]

theorem left0_any (v : Int) (w : World) : Calls Try.prog 127 #[.int .i64 v] w fun e w' => e = .returned (.int .i64 0) ∧ w' = w := by
  go_enter Try.func127, Try.ntmps127
  go_wp2
  go_ret
  exact ⟨rfl, rfl⟩

set_option maxRecDepth 100000 in
set_option maxHeartbeats 4000000 in
theorem nearest_walk (N s : Int) (A : Option Addr) (n c lb sb gb : Nat) (L : List Arc3) (hn : n = L.length) (hc : n ≤ c) (ho : okB N L = true) (h0 : 0 ≤ s) (h1 : s < N)
    (l : Nat) (J Jx : List It → (Nat → Prop) → World → Prop) (K0 : Nat → Prop) (W : World) (hI : NIn W lb sb gb N s A n c L)
    (hJ : ∀ pre K A B, J pre K A → Turn (fun i => ¬ K i) A B → J pre K B) (hJx : ∀ pre K A B, Jx pre K A → Turn (fun i => ¬ K i) A B → Jx pre K B) (hlt : ∀ pre K A, J pre K A → ∀ i, K i → i < A.heap.size)
    (hK0 : ∀ i, K0 i → ¬ inBlocks lb sb gb A L i)
    (hY : ∀ pre x K W1, J pre K W1 → NextNear N L s pre x → YieldAt Fence.wide 0 Try.prog l (encI x) W1 fun e W' => ∃ K', Step K K' W1 W' ∧
      ((e = .returned (.bool true) ∧ J (pre ++ [x]) K' W') ∨ (e = .returned (.bool false) ∧ Jx (pre ++ [x]) K' W')))
    (hJ0 : J [] K0 W) :
    CallsIn Fence.wide 0 Try.prog 150 #[.func (.yield l) #[] #[], .pointer (some ⟨lb, 0, none⟩), .pointer (some ⟨sb, 0, none⟩), .pointer (some ⟨gb, 0, none⟩)] W fun e W' => (∃ v, e = .returned v) ∧ ∃ K', Step K0 K' W W' ∧
      ((∃ xs, AllNear N L s xs ∧ J xs K' W') ∨ (∃ pre, PartNear N L s pre ∧ Jx pre K' W')) := by
  have HI := Lib.hid hI
  have HJ := Lib.hid hJ
  have HJX := Lib.hid hJx
  have HLT := Lib.hid hlt
  have HK := Lib.hid hK0
  have HY := Lib.hid hY
  have HN := Lib.hid hn
  have HO := Lib.hid ho
  have HJ0 := Lib.hid hJ0
  obtain ⟨ql, q0, q1, q2, -⟩ := hI
  have hlb := World.block_lt_of_cell? _ _ ql
  have hsb := World.block_lt_of_cell? _ _ q0
  have hgb := World.block_lt_of_cell? _ _ q1
  simp only at hlb hsb hgb
  clear hJ hJx hlt hK0 hY hn ho hJ0
  refine callsIn_of_wp Try.func150 rfl trivial ?_ rfl
  simp only [Try.ntmps150, List.size_toArray, List.length_cons, List.length_nil, Nat.reduceAdd, Nat.reduceSub, Array.replicate_succ, Array.replicate_zero, List.push_toArray, List.append_toArray, List.nil_append, List.cons_append]
  gi_wp2_with fail
  refine wpIn_region_held (S := fun wx => wx.cell? ⟨lb, 0, none⟩ = some (.func (.func 127) #[] #[]) ∧ wx.cell? ⟨sb, 0, none⟩ = some (.int .i64 s)) (by kernel_rfl) ?_ (fun hHeld => ?_)
  · (first | (refine ⟨?_, ?_⟩ <;> (simp [go_sem, *]; done)) | exact ⟨(hT1.cells (g := lb) (by simp; omega) (by rintro (h | h); omega; simp [Value.ownBlock] at h) 0).1.trans (by simp [go_sem, *]), (hT1.cells (g := sb) (by simp; omega) (by rintro (h | h); omega; simp [Value.ownBlock] at h) 0).1.trans (by simp [go_sem, *])⟩)
  refine wpAnyH_take (i := 0) (v := ?_) rfl (by kernel_rfl) (by kernel_rfl) (by kernel_rfl) (fun _ _ _ h => h) (Or.inl ⟨by kernel_rfl, ?_⟩) (by assumption) ?_
  rotate_left
  · (intro wx hSw; (try dsimp only at hSw); go_simp; try (with_reducible rfl))
  try simp only [Act.put, List.getElem_toArray, List.getElem_cons_succ, List.getElem_cons_zero, List.setIfInBounds_toArray, List.set_cons_zero, List.set_cons_succ]
  refine wpAnyH_take (i := 1) (v := ?_) rfl (by kernel_rfl) (by kernel_rfl) (by kernel_rfl) (fun _ _ _ h => h) (Or.inl ⟨by kernel_rfl, ?_⟩) (by assumption) ?_
  rotate_left
  · (intro wx hSw; (try dsimp only at hSw); go_simp; try (with_reducible rfl))
  try simp only [Act.put, List.getElem_toArray, List.getElem_cons_succ, List.getElem_cons_zero, List.setIfInBounds_toArray, List.set_cons_zero, List.set_cons_succ]
  refine wpAnyH_take (i := 2) (v := ?_) rfl (by kernel_rfl) (by kernel_rfl) (by kernel_rfl) (fun _ _ _ h => h) (Or.inl ⟨by kernel_rfl, ?_⟩) (by assumption) ?_
  rotate_left
  · (intro wx hSw; (try dsimp only at hSw); go_simp; try (with_reducible rfl))
  try simp only [Act.put, List.getElem_toArray, List.getElem_cons_succ, List.getElem_cons_zero, List.setIfInBounds_toArray, List.set_cons_zero, List.set_cons_succ]
  refine wpAnyH_take (i := 4) (v := ?_) rfl (by kernel_rfl) (by kernel_rfl) (by kernel_rfl) (fun _ _ _ h => h) (Or.inl ⟨by kernel_rfl, ?_⟩) (by assumption) ?_
  rotate_left
  · (intro wx hSw; (try dsimp only at hSw); go_simp; try (with_reducible rfl))
  try simp only [Act.put, List.getElem_toArray, List.getElem_cons_succ, List.getElem_cons_zero, List.setIfInBounds_toArray, List.set_cons_zero, List.set_cons_succ]
  refine wpAnyH_ready (rs := [3]) (by kernel_rfl) (by simp) ?_
  refine AllReadyH.cons rfl (fun K hK => ?_) AllReadyH.nil
  go_simp
  (go_at_call 127; refine (left0_any _ _).mono ?_; rintro e w_ ⟨rfl, rfl⟩)
  try (go_wp2_with fail)
  refine hK.out _ _ ?_ (fun hHeld => ?_)
  · (first | (refine ⟨?_, ?_⟩ <;> (simp [go_sem, *]; done)) | exact ⟨(hT1.cells (g := lb) (by simp; omega) (by rintro (h | h); omega; simp [Value.ownBlock] at h) 0).1.trans (by simp [go_sem, *]), (hT1.cells (g := sb) (by simp; omega) (by rintro (h | h); omega; simp [Value.ownBlock] at h) 0).1.trans (by simp [go_sem, *])⟩)
  clear hK K
  try simp only [Act.put, List.getElem_toArray, List.getElem_cons_succ, List.getElem_cons_zero, List.setIfInBounds_toArray, List.set_cons_zero, List.set_cons_succ]
  refine wpAnyH_take (i := 5) (v := ?_) rfl (by kernel_rfl) (by kernel_rfl) (by kernel_rfl) (fun _ _ _ h => h) (Or.inl ⟨by kernel_rfl, ?_⟩) (by assumption) ?_
  rotate_left
  · (intro wx hSw; (try dsimp only at hSw); go_simp; try (with_reducible rfl))
  try simp only [Act.put, List.getElem_toArray, List.getElem_cons_succ, List.getElem_cons_zero, List.setIfInBounds_toArray, List.set_cons_zero, List.set_cons_succ]
  refine wpAnyH_ready (rs := [6]) (by kernel_rfl) (by simp) ?_
  refine AllReadyH.cons rfl (fun K hK => ?_) AllReadyH.nil
  go_simp
  (go_at_call 152; refine (push_any W.heap.size (W.heap.size + 1) (.slice none 0 0) [] 0 s _ (by simp) ⟨⟨by simp [go_sem], by simp [go_sem], by simp [go_sem]⟩, Owns.nil_ _ _ _ _, by omega, by simp [Value.ownBlock]⟩ (by simp; omega)).mono ?_; rw [show upI ([] ++ [((0 : Int), s)]) ([] : List It).length = [(0, s)] from upI_zero _]; rintro e w1 ⟨rfl, g, c1, hH1, hT1, hg1⟩)
  try (go_wp2_with fail)
  refine hK.out _ _ ?_ (fun hHeld => ?_)
  · (first | (refine ⟨?_, ?_⟩ <;> (simp [go_sem, *]; done)) | exact ⟨(hT1.cells (g := lb) (by simp; omega) (by rintro (h | h); omega; simp [Value.ownBlock] at h) 0).1.trans (by simp [go_sem, *]), (hT1.cells (g := sb) (by simp; omega) (by rintro (h | h); omega; simp [Value.ownBlock] at h) 0).1.trans (by simp [go_sem, *])⟩)
  clear hK K
  try simp only [Act.put, List.getElem_toArray, List.getElem_cons_succ, List.getElem_cons_zero, List.setIfInBounds_toArray, List.set_cons_zero, List.set_cons_succ]
  refine wpAnyH_done (by kernel_rfl) ?_ _
  refine NoOut.normal ?_
  have hb1 : Bl W w1 := Turn.to_bl ((((Bl.refl W).alloc_ _).alloc_ _).drew_) hT1 (fun i hi => by
    rcases hi with h | h
    · omega
    · simp [Value.ownBlock] at h)
  have ht1 : ToldAt w1 W.heap.size [] := by
    have hx : ∀ o, w1.cell? ⟨W.heap.size, o, none⟩ = (W.alloc (.cells #[.bool false, .bool false, .bool false, .bool false, .bool false, .bool false, .bool false, .bool false, .bool false, .bool false, .bool false, .bool false, .bool false, .bool false, .bool false, .bool false, .bool false, .bool false, .bool false, .bool false, .bool false, .bool false, .bool false, .bool false] 160)).cell? ⟨W.heap.size, o, none⟩ ∧ w1.frozen? ⟨W.heap.size, o, none⟩ = false := fun o => by
      obtain ⟨a, b⟩ := hT1.cells (g := W.heap.size) (by simp; omega) (fun h => by
        rcases h with h | h
        · omega
        · simp [Value.ownBlock] at h) o
      rw [a, b]
      exact ⟨by simp [go_sem], by simp [go_sem]⟩
    refine ⟨Nat.lt_of_lt_of_le (by simp; omega) hT1.size, fun i hi => ?_, fun i hi => (hx i).2⟩
    rw [(hx i).1]
    match i, hi with
    | 0, _ | 1, _ | 2, _ | 3, _ | 4, _ | 5, _ | 6, _ | 7, _ | 8, _ | 9, _ | 10, _ | 11, _ | 12, _ | 13, _ | 14, _ | 15, _ | 16, _ | 17, _ | 18, _ | 19, _ | 20, _ | 21, _ | 22, _ | 23, _ => simp [go_sem, toldB]
    | (k + 24), h => exact absurd h (by omega)
  have hgl : W.heap.size + 1 ≠ g ∧ W.heap.size ≤ g ∧ W.heap.size ≠ g := by
    have hx := (Owns.lt_ hH1.2.1 g rfl)
    rcases hg1 with h | h
    · simp [Value.ownBlock] at h
    · simp at h; omega
  have hk0 := HLT.out [] K0 W HJ0.out
  have st1 : NSt W K0 W.heap.size (W.heap.size + 1) [] [(0, s)] K0 g c1 w1 :=
    ⟨ht1, ⟨Owns.self_ hH1.2.1, rfl⟩, hH1.1, ⟨hgl.1, by omega, hgl.2.2⟩, ⟨by omega, by omega, hgl.2.1⟩, ⟨fun h => by have := hk0 _ h; omega, fun h => by have := hk0 _ h; omega, fun h => by have := hk0 _ h; omega⟩,
      ⟨Turn.of_bl hb1, fun i h => .inl h⟩⟩
  have ST := Lib.hid st1
  have J1 := Lib.hid (HJ.out [] K0 W w1 HJ0.out (Turn.of_bl hb1))
  have hsz : W.heap.size + 1 < w1.heap.size := st1.box.lt
  generalize W.heap.size + 1 = hb at *
  generalize htb : W.heap.size = tb at *
  clear hH1 hT1 hg1 ht1 hgl hk0 st1 hb1
  gi_wp2_with fail
  clear ql q0 q1 q2 hHeld
  gi_loopg [7] (potN L [] [(0, s)]) (fun k p wr => ∃ Y H K g c, Near N L s Y H [] (0, 0) ∧ potN L Y H ≤ k ∧ NSt W K0 tb hb Y H K g c wr ∧ J Y K wr)
  case atStart => exact ⟨[], [(0, s)], K0, g, c1, Near.start_ h0 h1 _, Nat.le_refl _, ST.out, J1.out⟩
  case round =>
    clear ST J1 hsz
    obtain ⟨Y, H, K, g, c', hnear, hpot, hst, hj⟩ := hrel
    have NE := Lib.hid hnear
    have ST := Lib.hid hst
    have J2 := Lib.hid hj
    have hbx := hst.box
    have hbl := hbx.lt
    have POT := Lib.hid hpot
    rcases H with _ | ⟨⟨x, y⟩, t⟩
    · obtain ⟨b0, b1, b2⟩ := hbx
      simp only [List.length_nil] at b0
      clear hnear hst hj hpot b1 b2
      gi_wp2_with fail
      go_end0
      exact ⟨⟨_, rfl⟩, K, ST.out.step, .inl ⟨Y, NE.out.all, J2.out⟩⟩
    · have hin := hnear.inH (x, y) (by simp)
      have hkey := hnear.keyH (x, y) (by simp)
      have hsm := hnear.small
      have hN24 := (okB_elim HO.out).2.1
      have hL150 := (okB_elim HO.out).2.2.1
      have hYl := hnear.told_le hN24
      simp only [List.length_cons, List.length_nil] at hin hkey hsm
      obtain ⟨u, rfl⟩ : ∃ u : Nat, y = u := ⟨y.toNat, by omega⟩
      have hu : u < 24 := by omega
      have hx0 : 0 ≤ x := hkey.1
      have hx1 : x ≤ 24000 := by omega
      have hut : ((u : Nat) : Int) < N := hin.2
      clear hin hkey hYl
      obtain ⟨b0, b1, b2⟩ := hbx
      simp only [List.length_cons] at b0
      have htl : tb < wr.heap.size := hst.told.lt
      clear hnear hst hj hpot b1 b2
      gi_wp2_with fail
      refine ⟨trivial, rfl, CallsIn.mono (callsIn_wide.2 (pop_any hb g t.length c' ((x, (u : Int)) :: t) _ (by omega) ST.out.row ST.out.box ST.out.ne.1)) ?_⟩
      rintro e w2 ⟨he, hR2, hB2, hT2⟩
      obtain rfl : e = .returned (.agg #[.int .i64 x, .int .i64 (u : Int)]) := he
      have hlen : (downI (cutI ((x, (u : Int)) :: t)) 0).length = t.length := by rw [downI_len, cutI_len]; simp
      generalize hM : downI (cutI ((x, (u : Int)) :: t)) 0 = M at hlen
      have hR2' : RowI w2 g M.length c' M := by rw [hlen, ← hM]; exact hR2
      have hB2' : HBox w2 hb (.slice (some ⟨g, 0, none⟩) M.length c') := by rw [hlen]; exact hB2
      have st2 := (ST.out.pop hR2' hB2' hT2)
      have ST2P := Lib.hid st2
      have J3 := HJ.out _ _ _ _ J2.out (ST.out.other hT2 (fun i hi => .inr hi))
      have JP := Lib.hid J3
      have hbX : Bl w2 (w2.alloc (.cells #[.int .i64 x, .int .i64 (u : Int)] 68)) := Bl.alloc_ (Bl.refl w2) _
      have ST2 := Lib.hid (st2.bl hbX)
      have HM := Lib.hid hM
      have HLN := Lib.hid hlen
      have hq := (st2.bl hbX).told.cell u hu
      have hqf := (st2.bl hbX).told.free u hu
      have htl2 := st2.told.lt
      have JH3 := Lib.hid (HJ.out _ _ _ _ J3 (Turn.of_bl hbX))
      have XN := Lib.hid (show (¬ K w2.heap.size ∧ ∀ i, K i → i < w2.heap.size) ∧ w2.heap.size ≠ tb ∧ w2.heap.size ≠ hb ∧ w2.heap.size ≠ g ∧ W.heap.size ≤ w2.heap.size from by
        have h2 := st2.told.lt
        have h3 := st2.box.lt
        have h4 := st2.row.cells.2.1
        exact ⟨⟨fun h => by have := HLT.out _ _ _ J3 _ h; omega, fun i h => HLT.out _ _ _ J3 _ h⟩, by omega, by omega, by omega, st2.step.1.size⟩)
      have in2 := HI.out.turn st2.step.1 (fun i hi => HK.out i hi)
      have LC := Lib.hid in2.left
      have hui : (0 : Int) ≤ (u : Int) ∧ (u : Int) < 24 := by omega
      obtain ⟨hu0, hu1⟩ := hui
      clear hR2 hB2 hT2 hR2' hB2' st2 J3 hM hlen b0 htl hbl hbX in2
      cases htold : toldB Y (u : Int) with
      | true =>
        rw [htold] at hq
        have TO := Lib.hid htold
        clear htold
        gi_wp2_with fail
        gi_roundg (potN L Y M)
        case rel => exact ⟨Y, M, K, g, c', by rw [← HM.out]; exact NE.out.skip (arcsIn_of_ok HO.out) TO.out _, Nat.le_refl _, ST2.out.bl (by repeat' (first | exact Bl.refl _ | with_reducible assumption | with_reducible refine Bl.drew_ ?_ | with_reducible refine Bl.drewN_ ?_ _ | with_reducible refine Bl.alloc_ ?_ _ | with_reducible refine Bl.trans_ ?_ (by assumption) | with_reducible refine Bl.trans_ ?_ (And.left (by assumption)))), HJ.out _ _ _ _ JH3.out (Turn.of_bl (by repeat' (first | exact Bl.refl _ | with_reducible assumption | with_reducible refine Bl.drew_ ?_ | with_reducible refine Bl.drewN_ ?_ _ | with_reducible refine Bl.alloc_ ?_ _ | with_reducible refine Bl.trans_ ?_ (by assumption) | with_reducible refine Bl.trans_ ?_ (And.left (by assumption)))))⟩
        case measure =>
          have h1 := POT.out
          have h2 := HLN.out
          unfold potN at h1 ⊢
          simp only [List.length_cons] at h1
          omega
      | false =>
        rw [htold] at hq
        have TO := Lib.hid htold
        clear htold
        have NT := Lib.hid (show Near N L s (Y ++ [(x, (u : Int))]) M (fromL (u : Int) L) (x, (u : Int)) from by rw [← HM.out]; exact NE.out.tell (arcsIn_of_ok HO.out) TO.out)
        have nx1 : tb ≠ w2.heap.size := fun e => XN.out.2.1 e.symm
        have nx2 : w2.heap.size ≠ tb := XN.out.2.1
        have lc := LC.out
        have ll := World.block_lt_of_cell? _ _ lc
        simp only at ll
        have tlo := ST2.out.lo.1
        have nl1 : tb ≠ lb := by omega
        have nl2 : lb ≠ tb := by omega
        have nl3 : lb ≠ w2.heap.size := by omega
        have nl4 : w2.heap.size ≠ lb := by omega
        have a0 : IntKind.i64.wrap (x - 0) = x := by rw [Int.sub_zero]; exact IntWalk.i64_in _ (by omega)
        have a0' : IntKind.i64.wrap x = x := IntWalk.i64_in _ (by omega)
        gi_wp2_with fail
        refine wpIn_region_held (S := fun wx => wx.cell? ⟨lb, 0, none⟩ = some (.func (.func 127) #[] #[]) ∧ wx.cell? ⟨w2.heap.size, 0, none⟩ = some (.int .i64 x) ∧ wx.cell? ⟨w2.heap.size, 1, none⟩ = some (.int .i64 (u : Int))) (by kernel_rfl) ?_ (fun hHeld => ?_)
        · (refine ⟨?_, ?_, ?_⟩ <;> (simp [go_sem, *]; done))
        refine wpAnyH_take (i := 0) (v := ?_) rfl (by kernel_rfl) (by kernel_rfl) (by kernel_rfl) (fun _ _ _ h => h) (Or.inl ⟨by kernel_rfl, ?_⟩) (by assumption) ?_
        rotate_left
        · (intro wx hSw; (try dsimp only at hSw); go_simp; try (with_reducible rfl))
        try simp only [Act.put, List.getElem_toArray, List.getElem_cons_succ, List.getElem_cons_zero, List.setIfInBounds_toArray, List.set_cons_zero, List.set_cons_succ]
        refine wpAnyH_take (i := 1) (v := ?_) rfl (by kernel_rfl) (by kernel_rfl) (by kernel_rfl) (fun _ _ _ h => h) (Or.inl ⟨by kernel_rfl, ?_⟩) (by assumption) ?_
        rotate_left
        · (intro wx hSw; (try dsimp only at hSw); go_simp; try (with_reducible rfl))
        try simp only [Act.put, List.getElem_toArray, List.getElem_cons_succ, List.getElem_cons_zero, List.setIfInBounds_toArray, List.set_cons_zero, List.set_cons_succ]
        refine wpAnyH_take (i := 2) (v := ?_) rfl (by kernel_rfl) (by kernel_rfl) (by kernel_rfl) (fun _ _ _ h => h) (Or.inl ⟨by kernel_rfl, ?_⟩) (by assumption) ?_
        rotate_left
        · (intro wx hSw; (try dsimp only at hSw); go_simp; try (with_reducible rfl))
        try simp only [Act.put, List.getElem_toArray, List.getElem_cons_succ, List.getElem_cons_zero, List.setIfInBounds_toArray, List.set_cons_zero, List.set_cons_succ]
        refine wpAnyH_take (i := 3) (v := ?_) rfl (by kernel_rfl) (by kernel_rfl) (by kernel_rfl) (fun _ _ _ h => h) (Or.inl ⟨by kernel_rfl, ?_⟩) (by assumption) ?_
        rotate_left
        · (intro wx hSw; (try dsimp only at hSw); go_simp; try (with_reducible rfl))
        try simp only [Act.put, List.getElem_toArray, List.getElem_cons_succ, List.getElem_cons_zero, List.setIfInBounds_toArray, List.set_cons_zero, List.set_cons_succ]
        refine wpAnyH_take (i := 4) (v := ?_) rfl (by kernel_rfl) (by kernel_rfl) (by kernel_rfl) (fun _ _ _ h => h) (Or.inl ⟨by kernel_rfl, ?_⟩) (by assumption) ?_
        rotate_left
        · (intro wx hSw; (try dsimp only at hSw); go_simp; try (with_reducible rfl))
        try simp only [Act.put, List.getElem_toArray, List.getElem_cons_succ, List.getElem_cons_zero, List.setIfInBounds_toArray, List.set_cons_zero, List.set_cons_succ]
        refine wpAnyH_ready (rs := [5]) (by kernel_rfl) (by simp) ?_
        refine AllReadyH.cons rfl (fun K hK => ?_) AllReadyH.nil
        go_simp
        (go_at_call 127; refine (left0_any _ _).mono ?_; rintro e w_ ⟨rfl, rfl⟩)
        try (go_wp2_with fail)
        refine hK.out _ _ ?_ (fun hHeld => ?_)
        · (refine ⟨?_, ?_, ?_⟩ <;> (simp [go_sem, *]; done))
        clear hK K
        try simp only [Act.put, List.getElem_toArray, List.getElem_cons_succ, List.getElem_cons_zero, List.setIfInBounds_toArray, List.set_cons_zero, List.set_cons_succ]
        refine wpAnyH_take (i := 6) (v := ?_) rfl (by kernel_rfl) (by kernel_rfl) (by kernel_rfl) (fun _ _ _ h => h) (Or.inl ⟨by kernel_rfl, ?_⟩) (by assumption) ?_
        rotate_left
        · (intro wx hSw; (try dsimp only at hSw); go_simp; try (with_reducible rfl))
        try simp only [Act.put, List.getElem_toArray, List.getElem_cons_succ, List.getElem_cons_zero, List.setIfInBounds_toArray, List.set_cons_zero, List.set_cons_succ]
        refine wpAnyH_take (i := 7) (v := ?_) rfl (by kernel_rfl) (by kernel_rfl) (by kernel_rfl) (fun _ _ _ h => h) (Or.inl ⟨by kernel_rfl, ?_⟩) (by assumption) ?_
        rotate_left
        · (intro wx hSw; (try dsimp only at hSw); go_simp; try (with_reducible rfl))
        try simp only [Act.put, List.getElem_toArray, List.getElem_cons_succ, List.getElem_cons_zero, List.setIfInBounds_toArray, List.set_cons_zero, List.set_cons_succ]
        refine wpAnyH_ready (rs := [8]) (by kernel_rfl) (by simp) ?_
        refine AllReadyH.cons rfl (fun K hK => ?_) AllReadyH.nil
        go_simp
        refine hK.out _ _ ?_ (fun hHeld => ?_)
        · (refine ⟨?_, ?_, ?_⟩ <;> (simp [go_sem, *]; done))
        clear hK K
        try simp only [Act.put, List.getElem_toArray, List.getElem_cons_succ, List.getElem_cons_zero, List.setIfInBounds_toArray, List.set_cons_zero, List.set_cons_succ]
        refine wpAnyH_done (by kernel_rfl) ?_ _
        refine NoOut.normal ?_
        clear hHeld
        obtain ⟨W3, hW3⟩ : ∃ W3, W3 = ((w2.setCell ⟨tb, u, none⟩ (.bool true)).alloc (.cells #[.int .i64 x, .int .i64 (u : Int)] 68)).drew := ⟨_, rfl⟩
        have st3 : NSt W K0 tb hb (Y ++ [(x, (u : Int))]) M K g c' W3 := by
          have h1 := (ST2P.out.tell (k := x) hu).bl ((Bl.alloc_ (Bl.refl (w2.setCell ⟨tb, u, none⟩ (.bool true))) (.cells #[.int .i64 x, .int .i64 (u : Int)] 68)).drew_)
          rw [hW3]; exact h1
        have hx3 : J Y K W3 := by
          rw [hW3]
          exact HJ.out _ _ _ _ (HJ.out _ _ _ _ JP.out (ST2P.out.other (Turn.set (p := ⟨tb, u, none⟩) (Turn.refl (fun i => i = tb) w2) (.inl rfl) (.bool true)) (fun i hi => .inl hi))) (Turn.of_bl ((Bl.alloc_ (Bl.refl (w2.setCell ⟨tb, u, none⟩ (.bool true))) (.cells #[.int .i64 x, .int .i64 (u : Int)] 68)).drew_))
        have s3 : W3.heap.size = w2.heap.size + 1 := by rw [hW3]; simp
        have x30 : W3.cell? ⟨w2.heap.size, 0, none⟩ = some (.int .i64 x) := by rw [hW3]; simp [go_sem]
        have x31 : W3.cell? ⟨w2.heap.size, 1, none⟩ = some (.int .i64 (u : Int)) := by rw [hW3]; simp [go_sem]
        rw [← hW3]
        have hnext : NextNear N L s Y (x, (u : Int)) := by
          obtain ⟨Z, hZ⟩ := NT.out.complete (arcsIn_of_ok HO.out) _ _ _ _ _ rfl
          exact ⟨Z, by simpa using hZ⟩
        obtain ⟨fn, tmps, assign, body, hy, hR⟩ := HY.out Y (x, (u : Int)) K _ hx3 hnext
        dsimp only [encI] at hy
        have ST3 := Lib.hid st3
        have SZ3 := Lib.hid s3
        have X30 := Lib.hid x30
        have X31 := Lib.hid x31
        clear st3 hx3 hnext s3 hW3 lc nl1 nl2 nl3 nl4 nx1 nx2 a0 hq hqf
        gi_wp2
        refine ⟨by first | rfl | (intro h; simp [Fence.wide] at h), hR.mono ?_⟩
        rintro e W4 ⟨K', hs4, (⟨rfl, hj4⟩ | ⟨rfl, hj4⟩)⟩
        · have in4 := HI.out.turn (ST3.out.round hs4).step.1 (fun i hi => HK.out i hi)
          have ST4 := Lib.hid (ST3.out.round hs4)
          have hx4 : W4.cell? ⟨w2.heap.size, 0, none⟩ = some (.int .i64 x) ∧ W4.cell? ⟨w2.heap.size, 1, none⟩ = some (.int .i64 (u : Int)) := by
            have hl : w2.heap.size < W3.heap.size := by rw [SZ3.out]; omega
            exact ⟨(hs4.1.cells hl XN.out.1.1 0).1.trans X30.out, (hs4.1.cells hl XN.out.1.1 1).1.trans X31.out⟩
          have XB := Lib.hid (show w2.heap.size < W4.heap.size ∧ w2.heap.size ≠ tb ∧ w2.heap.size ≠ hb ∧ w2.heap.size ≠ g ∧ ¬ K' w2.heap.size from by
            have h1 := hs4.1.size
            rw [SZ3.out] at h1
            exact ⟨by omega, XN.out.2.1, XN.out.2.2.1, XN.out.2.2.2.1, hs4.out (by rw [SZ3.out]; omega) XN.out.1.1⟩)
          have J4 := Lib.hid hj4
          have KL := Lib.hid (HLT.out _ _ _ hj4)
          obtain ⟨xc0, xc1⟩ := hx4
          obtain ⟨gl, g0, g1, g2, harcs⟩ := in4
          have G2 := Lib.hid harcs
          have hsb4 := World.block_lt_of_cell? _ _ g0
          have hgb4 := World.block_lt_of_cell? _ _ g1
          have hxl := XB.out.1
          simp only at hsb4 hgb4
          clear hs4 hj4 harcs hR hy htl2 ST2 ST2P JP ST3 XN SZ3 X30 X31 JH3 J2 ST LC ll gl
          generalize w2.heap.size = xb at *
          gi_wp2_with fail
          refine ⟨trivial, rfl, CallsIn.mono (callsIn_wide.2 (arcsFrom_any N u A n c L HN.out _ (by have := HN.out; omega) hc (sorted_of_ok HO.out) (fun a ha => (arcsIn_of_ok HO.out a ha).2.2.1) (by omega) (by omega) G2.out)) ?_⟩
          rintro e W5 ⟨A', c5, rfl, hc5, hA5, hblk, hb5⟩
          have A5 := Lib.hid hA5
          have ST5 := Lib.hid (ST4.out.bl hb5)
          have BLK := Lib.hid hblk
          have J5 := Lib.hid (HJ.out _ _ _ _ J4.out (Turn.of_bl hb5))
          obtain ⟨hc5a, hc5b⟩ := bcell hb5
          have hx5 : W5.cell? ⟨xb, 0, none⟩ = some (.int .i64 x) ∧ W5.cell? ⟨xb, 1, none⟩ = some (.int .i64 (u : Int)) := ⟨(hc5a _ _ hxl).trans xc0, (hc5a _ _ hxl).trans xc1⟩
          have hs5 := hb5.size
          have XB5 := Lib.hid (show xb < W5.heap.size ∧ xb ≠ tb ∧ xb ≠ hb ∧ xb ≠ g ∧ ¬ K' xb from ⟨by omega, XB.out.2⟩)
          have X5 := Lib.hid hx5
          have C5 := Lib.hid hc5
          clear hA5 hblk hb5 hc5a hc5b hx5 g0 g1 g2 xc0 xc1 ST4 J4 XB G2 hc5
          gi_wp2_with fail
          generalize hRR : fromL (u : Int) L = R at *
          have hRs := NT.out.small
          have hR150 : R.length ≤ 151 := by omega
          have HRR := Lib.hid hRR
          clear hRR hRs
          gi_loopw [51] (fun i wr => ∃ (j : Nat) (H : List It) (g' c' : Nat), j ≤ R.length ∧ i = .int .i64 j ∧ H.length = t.length + j ∧ Near N L s (Y ++ [(x, (u : Int))]) H (R.drop j) (x, (u : Int)) ∧ NSt W K0 tb hb (Y ++ [(x, (u : Int))]) H K' g' c' wr ∧ J (Y ++ [(x, (u : Int))]) K' wr ∧
            (wr.cell? ⟨xb, 0, none⟩ = some (.int .i64 x) ∧ wr.cell? ⟨xb, 1, none⟩ = some (.int .i64 (u : Int))) ∧ (xb < wr.heap.size ∧ xb ≠ tb ∧ xb ≠ hb ∧ xb ≠ g' ∧ ¬ K' xb)) (fun i _ => R.length - (intOf i).toNat)
          case atStart => exact ⟨0, M, g, c', Nat.zero_le _, rfl, by rw [HLN.out]; omega, NT.out, ST5.out, J5.out, X5.out, XB5.out⟩
          case round =>
            obtain ⟨j, H, g', d', hj, rfl, hHl, hnear, hst, hjj, ⟨x0, x1⟩, hxb⟩ := hrel
            have NE2 := Lib.hid hnear
            have HHL := Lib.hid hHl
            have hsm := hnear.small
            have S6 := Lib.hid hst
            have JJ := Lib.hid hjj
            have XB6 := Lib.hid hxb
            have hxl6 := hxb.1
            have hHm : H.length + 1 ≤ 1048576 := by omega
            clear hnear hHl hst hjj hxb X5 XB5 J5
            by_cases hlt : j < R.length
            · have hcut := List.drop_eq_getElem_cons hlt
              have NE3 := Lib.hid (show Near N L s (Y ++ [(x, (u : Int))]) H (R[j] :: R.drop (j + 1)) (x, (u : Int)) from by rw [← hcut]; exact NE2.out)
              obtain ⟨haL, -⟩ := NE3.out.rest R[j] List.mem_cons_self
              obtain ⟨-, -, a2, a3, a4, a5⟩ := arcsIn_of_ok HO.out R[j] haL
              obtain ⟨g5, o5, rfl, hg5, hcells⟩ := A5.out (by omega)
              obtain ⟨p1, p2, p3⟩ := hcells j hlt
              have hA5b : blockOf A = some g5 := BLK.out.symm
              have hgW : g5 < W.heap.size := by
                obtain ⟨g1, o1, e1, hg1, -⟩ := HI.out.arcs (List.length_pos_of_mem haL)
                rw [e1] at hA5b
                have : g1 = g5 := by simpa [blockOf] using hA5b
                omega
              have hnk : ¬ K0 g5 := fun h => HK.out g5 h (.inr (.inr (.inr ⟨List.length_pos_of_mem haL, hA5b⟩)))
              have same : ∀ o, wr.cell? ⟨g5, o, none⟩ = W5.cell? ⟨g5, o, none⟩ := fun o => (S6.out.step.1.cells hgW hnk o).1.trans (ST5.out.step.1.cells hgW hnk o).1.symm
              rw [← same] at p1 p2 p3
              have hgl : g5 < wr.heap.size := Nat.lt_of_lt_of_le hgW S6.out.step.1.size
              clear hcut hcells hA5b hgW hnk same haL
              generalize hy1 : R[j].1 = y1 at p1
              generalize hy2 : R[j].2.1 = y2 at p2 a2 a3
              generalize hy3 : R[j].2.2 = y3 at p3 a4 a5
              have HY2 := Lib.hid hy2
              have HY3 := Lib.hid hy3
              clear hy1 hy2 hy3
              have lcr := (HI.out.turn S6.out.step.1 (fun i hi => HK.out i hi)).left
              have llr := World.block_lt_of_cell? _ _ lcr
              simp only at llr
              have hlo := S6.out.lo
              have hbr := S6.out.box.lt
              have hgr := S6.out.row.cells.2.1
              have nl1 : lb ≠ hb := by omega
              have nl2 : lb ≠ g' := by omega
              have nx1 : xb ≠ hb := XB6.out.2.2.1
              have nx2 : xb ≠ g' := XB6.out.2.2.2.1
              have a0 : IntKind.i64.wrap (x + y3) = x + y3 := IntWalk.i64_in _ (by omega)
              have a00 : IntKind.i64.wrap (x + y3 + 0) = x + y3 := by rw [Int.add_zero]; exact a0
              have KEEP := Lib.hid (show ∀ w6, Turn (fun k => k = hb ∨ some k = (Value.slice (some ⟨g', 0, none⟩) H.length d').ownBlock) ((wr.alloc (.cells #[.int .i64 y1, .int .i64 y2, .int .i64 y3] 146)).drew) w6 →
                  w6.cell? ⟨lb, 0, none⟩ = some (.func (.func 127) #[] #[]) ∧ w6.cell? ⟨xb, 0, none⟩ = some (.int .i64 x) ∧ w6.cell? ⟨wr.heap.size, 1, none⟩ = some (.int .i64 y2) ∧ w6.cell? ⟨wr.heap.size, 2, none⟩ = some (.int .i64 y3) from fun w6 h => by
                have hn : ∀ i, i ≠ hb → i ≠ g' → ¬ (i = hb ∨ some i = (Value.slice (some ⟨g', 0, none⟩) H.length d').ownBlock) := by
                  rintro i h1 h2 (h' | h')
                  · exact h1 h'
                  · injection h' with h'; exact h2 h'
                refine ⟨(h.cells (g := lb) (by simp; omega) (hn _ nl1 nl2) 0).1.trans (by simp [go_sem, *]), (h.cells (g := xb) (by simp; omega) (hn _ nx1 nx2) 0).1.trans (by simp [go_sem, *]),
                  (h.cells (g := wr.heap.size) (by simp) (hn _ (by omega) (by omega)) 1).1.trans (by simp [go_sem]), (h.cells (g := wr.heap.size) (by simp) (hn _ (by omega) (by omega)) 2).1.trans (by simp [go_sem])⟩)
              gi_wp2_with fail
              refine wpIn_region_held (S := fun wx => wx.cell? ⟨lb, 0, none⟩ = some (.func (.func 127) #[] #[]) ∧ wx.cell? ⟨xb, 0, none⟩ = some (.int .i64 x) ∧ wx.cell? ⟨wr.heap.size, 1, none⟩ = some (.int .i64 y2) ∧ wx.cell? ⟨wr.heap.size, 2, none⟩ = some (.int .i64 y3)) (by kernel_rfl) ?_ (fun hHeld => ?_)
              · (first | (refine ⟨?_, ?_, ?_, ?_⟩ <;> (simp [go_sem, *]; done)) | exact KEEP.out _ hT6)
              refine wpAnyH_take (i := 0) (v := ?_) rfl (by kernel_rfl) (by kernel_rfl) (by kernel_rfl) (fun _ _ _ h => h) (Or.inl ⟨by kernel_rfl, ?_⟩) (by assumption) ?_
              rotate_left
              · (intro wx hSw; (try dsimp only at hSw); go_simp; try (with_reducible rfl))
              try simp only [Act.put, List.getElem_toArray, List.getElem_cons_succ, List.getElem_cons_zero, List.setIfInBounds_toArray, List.set_cons_zero, List.set_cons_succ]
              refine wpAnyH_take (i := 1) (v := ?_) rfl (by kernel_rfl) (by kernel_rfl) (by kernel_rfl) (fun _ _ _ h => h) (Or.inl ⟨by kernel_rfl, ?_⟩) (by assumption) ?_
              rotate_left
              · (intro wx hSw; (try dsimp only at hSw); go_simp; try (with_reducible rfl))
              try simp only [Act.put, List.getElem_toArray, List.getElem_cons_succ, List.getElem_cons_zero, List.setIfInBounds_toArray, List.set_cons_zero, List.set_cons_succ]
              refine wpAnyH_take (i := 2) (v := ?_) rfl (by kernel_rfl) (by kernel_rfl) (by kernel_rfl) (fun _ _ _ h => h) (Or.inl ⟨by kernel_rfl, ?_⟩) (by assumption) ?_
              rotate_left
              · (intro wx hSw; (try dsimp only at hSw); go_simp; try (with_reducible rfl))
              try simp only [Act.put, List.getElem_toArray, List.getElem_cons_succ, List.getElem_cons_zero, List.setIfInBounds_toArray, List.set_cons_zero, List.set_cons_succ]
              refine wpAnyH_take (i := 3) (v := ?_) rfl (by kernel_rfl) (by kernel_rfl) (by kernel_rfl) (fun _ _ _ h => h) (Or.inl ⟨by kernel_rfl, ?_⟩) (by assumption) ?_
              rotate_left
              · (intro wx hSw; (try dsimp only at hSw); go_simp; try (with_reducible rfl))
              try simp only [Act.put, List.getElem_toArray, List.getElem_cons_succ, List.getElem_cons_zero, List.setIfInBounds_toArray, List.set_cons_zero, List.set_cons_succ]
              refine wpAnyH_take (i := 4) (v := ?_) rfl (by kernel_rfl) (by kernel_rfl) (by kernel_rfl) (fun _ _ _ h => h) (Or.inl ⟨by kernel_rfl, ?_⟩) (by assumption) ?_
              rotate_left
              · (intro wx hSw; (try dsimp only at hSw); go_simp; try (with_reducible rfl))
              try simp only [Act.put, List.getElem_toArray, List.getElem_cons_succ, List.getElem_cons_zero, List.setIfInBounds_toArray, List.set_cons_zero, List.set_cons_succ]
              refine wpAnyH_take (i := 5) (v := ?_) rfl (by kernel_rfl) (by kernel_rfl) (by kernel_rfl) (fun _ _ _ h => h) (Or.inl ⟨by kernel_rfl, ?_⟩) (by assumption) ?_
              rotate_left
              · (intro wx hSw; (try dsimp only at hSw); go_simp; try (with_reducible rfl))
              try simp only [Act.put, List.getElem_toArray, List.getElem_cons_succ, List.getElem_cons_zero, List.setIfInBounds_toArray, List.set_cons_zero, List.set_cons_succ]
              refine wpAnyH_take (i := 6) (v := ?_) rfl (by kernel_rfl) (by kernel_rfl) (by kernel_rfl) (fun _ _ _ h => h) (Or.inl ⟨by kernel_rfl, ?_⟩) (by assumption) ?_
              rotate_left
              · (intro wx hSw; (try dsimp only at hSw); go_simp; try (with_reducible rfl))
              try simp only [Act.put, List.getElem_toArray, List.getElem_cons_succ, List.getElem_cons_zero, List.setIfInBounds_toArray, List.set_cons_zero, List.set_cons_succ]
              refine wpAnyH_take (i := 7) (v := ?_) rfl (by kernel_rfl) (by kernel_rfl) (by kernel_rfl) (fun _ _ _ h => h) (Or.inl ⟨by kernel_rfl, ?_⟩) (by assumption) ?_
              rotate_left
              · (intro wx hSw; (try dsimp only at hSw); go_simp; try (with_reducible rfl))
              try simp only [Act.put, List.getElem_toArray, List.getElem_cons_succ, List.getElem_cons_zero, List.setIfInBounds_toArray, List.set_cons_zero, List.set_cons_succ]
              refine wpAnyH_take (i := 8) (v := ?_) rfl (by kernel_rfl) (by kernel_rfl) (by kernel_rfl) (fun _ _ _ h => h) (Or.inl ⟨by kernel_rfl, ?_⟩) (by assumption) ?_
              rotate_left
              · (intro wx hSw; (try dsimp only at hSw); go_simp; try (with_reducible rfl))
              try simp only [Act.put, List.getElem_toArray, List.getElem_cons_succ, List.getElem_cons_zero, List.setIfInBounds_toArray, List.set_cons_zero, List.set_cons_succ]
              refine wpAnyH_take (i := 11) (v := ?_) rfl (by kernel_rfl) (by kernel_rfl) (by kernel_rfl) (fun _ _ _ h => h) (Or.inl ⟨by kernel_rfl, ?_⟩) (by assumption) ?_
              rotate_left
              · (intro wx hSw; (try dsimp only at hSw); go_simp; try (with_reducible rfl))
              try simp only [Act.put, List.getElem_toArray, List.getElem_cons_succ, List.getElem_cons_zero, List.setIfInBounds_toArray, List.set_cons_zero, List.set_cons_succ]
              refine wpAnyH_take (i := 12) (v := ?_) rfl (by kernel_rfl) (by kernel_rfl) (by kernel_rfl) (fun _ _ _ h => h) (Or.inl ⟨by kernel_rfl, ?_⟩) (by assumption) ?_
              rotate_left
              · (intro wx hSw; (try dsimp only at hSw); go_simp; try (with_reducible rfl))
              try simp only [Act.put, List.getElem_toArray, List.getElem_cons_succ, List.getElem_cons_zero, List.setIfInBounds_toArray, List.set_cons_zero, List.set_cons_succ]
              refine wpAnyH_ready (rs := [9]) (by kernel_rfl) (by simp) ?_
              refine AllReadyH.cons rfl (fun K hK => ?_) AllReadyH.nil
              go_simp
              (go_at_call 127; refine (left0_any _ _).mono ?_; rintro e w_ ⟨rfl, rfl⟩)
              try (go_wp2_with fail)
              refine hK.out _ _ ?_ (fun hHeld => ?_)
              · (first | (refine ⟨?_, ?_, ?_, ?_⟩ <;> (simp [go_sem, *]; done)) | exact KEEP.out _ hT6)
              clear hK K
              try simp only [Act.put, List.getElem_toArray, List.getElem_cons_succ, List.getElem_cons_zero, List.setIfInBounds_toArray, List.set_cons_zero, List.set_cons_succ]
              refine wpAnyH_take (i := 10) (v := ?_) rfl (by kernel_rfl) (by kernel_rfl) (by kernel_rfl) (fun _ _ _ h => h) (Or.inl ⟨by kernel_rfl, ?_⟩) (by assumption) ?_
              rotate_left
              · (intro wx hSw; (try dsimp only at hSw); go_simp; try (with_reducible rfl))
              try simp only [Act.put, List.getElem_toArray, List.getElem_cons_succ, List.getElem_cons_zero, List.setIfInBounds_toArray, List.set_cons_zero, List.set_cons_succ]
              refine wpAnyH_take (i := 13) (v := ?_) rfl (by kernel_rfl) (by kernel_rfl) (by kernel_rfl) (fun _ _ _ h => h) (Or.inl ⟨by kernel_rfl, ?_⟩) (by assumption) ?_
              rotate_left
              · (intro wx hSw; (try dsimp only at hSw); go_simp; try (with_reducible rfl))
              try simp only [Act.put, List.getElem_toArray, List.getElem_cons_succ, List.getElem_cons_zero, List.setIfInBounds_toArray, List.set_cons_zero, List.set_cons_succ]
              refine wpAnyH_ready (rs := [14]) (by kernel_rfl) (by simp) ?_
              refine AllReadyH.cons rfl (fun K hK => ?_) AllReadyH.nil
              go_simp
              (go_at_call 152; refine (push_any W.heap.size hb (.slice (some ⟨g', 0, none⟩) H.length d') H (x + y3) y2 _ hHm (S6.out.bl (by repeat' (first | exact Bl.refl _ | with_reducible assumption | with_reducible refine Bl.drew_ ?_ | with_reducible refine Bl.drewN_ ?_ _ | with_reducible refine Bl.alloc_ ?_ _ | with_reducible refine Bl.trans_ ?_ (by assumption) | with_reducible refine Bl.trans_ ?_ (And.left (by assumption))))).heapIn (by simp; omega)).mono ?_; rintro e w6 ⟨rfl, g6, c6, hH6, hT6, hg6⟩)
              try (go_wp2_with fail)
              refine hK.out _ _ ?_ (fun hHeld => ?_)
              · (first | (refine ⟨?_, ?_, ?_, ?_⟩ <;> (simp [go_sem, *]; done)) | exact KEEP.out _ hT6)
              clear hK K
              try simp only [Act.put, List.getElem_toArray, List.getElem_cons_succ, List.getElem_cons_zero, List.setIfInBounds_toArray, List.set_cons_zero, List.set_cons_succ]
              refine wpAnyH_done (by kernel_rfl) ?_ _
              refine NoOut.normal ?_
              clear hHeld
              have hB6 : Bl wr ((wr.alloc (.cells #[.int .i64 y1, .int .i64 y2, .int .i64 y3] 146)).drew) := (by repeat' (first | exact Bl.refl _ | with_reducible assumption | with_reducible refine Bl.drew_ ?_ | with_reducible refine Bl.drewN_ ?_ _ | with_reducible refine Bl.alloc_ ?_ _ | with_reducible refine Bl.trans_ ?_ (by assumption) | with_reducible refine Bl.trans_ ?_ (And.left (by assumption))))
              have JA := HJ.out _ _ _ _ JJ.out (Turn.of_bl hB6)
              have st6 := (S6.out.bl hB6).push (HLT.out _ _ _ JA) (by rw [upI_len]; simp) hH6 hT6 hg6
              have j6 := HJ.out _ _ _ _ JA ((S6.out.bl hB6).other hT6 (fun i hi => by
                rcases hi with h | h
                · exact .inr (.inl h)
                · injection h with h; exact .inr (.inr h)))
              have hxn : ¬ (xb = hb ∨ some xb = (Value.slice (some ⟨g', 0, none⟩) H.length d').ownBlock) := by
                rintro (h | h)
                · exact XB6.out.2.2.1 h
                · injection h with h; exact XB6.out.2.2.2.1 h
              have hxl7 : xb < ((wr.alloc (.cells #[.int .i64 y1, .int .i64 y2, .int .i64 y3] 146)).drew).heap.size := by simp; omega
              have hx6 : w6.cell? ⟨xb, 0, none⟩ = some (.int .i64 x) ∧ w6.cell? ⟨xb, 1, none⟩ = some (.int .i64 (u : Int)) :=
                ⟨(hT6.cells hxl7 hxn 0).1.trans (((bcell hB6).1 _ _ hxl6).trans x0), (hT6.cells hxl7 hxn 1).1.trans (((bcell hB6).1 _ _ hxl6).trans x1)⟩
              have hxb6 : xb < w6.heap.size ∧ xb ≠ tb ∧ xb ≠ hb ∧ xb ≠ g6 ∧ ¬ K' xb := by
                refine ⟨Nat.lt_of_lt_of_le hxl7 hT6.size, XB6.out.2.1, XB6.out.2.2.1, ?_, XB6.out.2.2.2.2⟩
                rcases hg6 with h | h
                · have h' : g' = g6 := by simpa [Value.ownBlock] using h
                  rw [← h']; exact XB6.out.2.2.2.1
                · omega
              have ST6 := Lib.hid st6
              have J6 := Lib.hid j6
              have X6 := Lib.hid hx6
              have XB7 := Lib.hid hxb6
              have hpu := NE3.out.push (arcsIn_of_ok HO.out)
              rw [HY2.out, HY3.out] at hpu
              have NE4 := Lib.hid hpu
              clear hH6 hT6 hg6 hB6 JA st6 j6 hxn hxl7 hx6 hxb6 hpu KEEP lcr llr nl1 nl2 nx1 nx2 a0 a00 hlo hbr hgr
              gi_wp2_with fail
              go_roundw
              case rel => exact ⟨j + 1, _, g6, c6, by omega, by go_num, by rw [upI_len]; simp; have := HHL.out; omega, NE4.out, ST6.out, J6.out, X6.out, XB7.out⟩
              case measure => simp [intOf]; omega
            · have hjR : R.drop j = [] := List.drop_eq_nil_of_le (by omega)
              have NE3 := Lib.hid (show Near N L s (Y ++ [(x, (u : Int))]) H [] (x, (u : Int)) from by rw [← hjR]; exact NE2.out)
              clear hjR
              gi_wp2_with fail
              gi_roundg (potN L (Y ++ [(x, (u : Int))]) H)
              case rel => exact ⟨_, H, K', g', d', NE3.out.any _, Nat.le_refl _, S6.out, JJ.out⟩
              case measure =>
                have h1 := POT.out
                have h2 := HHL.out
                have h3 := potN_tell L Y ((x, (u : Int)) :: t) H (x, (u : Int)) TO.out R.length (by rw [← HRR.out]; rfl)
                simp only [List.length_cons] at h3
                omega
        · gi_wp2
          refine bodyPost_ret (results_none rfl _ _ _) rfl ?_
          obtain ⟨Z, hZ⟩ := NT.out.complete (arcsIn_of_ok HO.out) _ _ _ _ _ rfl
          exact ⟨⟨_, rfl⟩, K', (ST3.out.round hs4).step, .inr ⟨_, ⟨Z, hZ⟩, hj4⟩⟩

/-- The function that nearestFrom hands back keeps the contract of an iterator. -/
theorem near_stops (N s : Int) (A : Option Addr) (n c lb sb gb : Nat) (L : List Arc3) (hn : n = L.length) (hc : n ≤ c) (ho : okB N L = true) (h0 : 0 ≤ s) (h1 : s < N) (w : World) (hI : NIn w lb sb gb N s A n c L) :
    SeqT Try.prog 150 #[.pointer (some ⟨lb, 0, none⟩), .pointer (some ⟨sb, 0, none⟩), .pointer (some ⟨gb, 0, none⟩)] encI (NextNear N L s) (AllNear N L s) (PartNear N L s) (inBlocks lb sb gb A L) w :=
  fun l J Jx K W hb hK hJ hJx hlt hY hJ0 => nearest_walk N s A n c lb sb gb L hn hc ho h0 h1 l J Jx K W (hI.turn (Turn.of_bl (S := fun _ => False) hb) (fun _ h => h.elim)) hJ hJx hlt hK hY hJ0

end Go.Proofs.Ytlddileiecnkjaa

set_option linter.unusedSimpArgs false
set_option linter.unusedVariables false
namespace Go.Proofs.Ytlddileiecnkjaa
open Go.RowKit Go.Shelf
attribute [local go_sem] Oper.semAt_some

set_option maxHeartbeats 400000 in
theorem guidedFrom_any (N s : Int) (A : Option Addr) (n c : Nat) (f : Value) (w : World) (hf : f = .func (.func 127) #[] #[]) :
    Calls Try.prog 126 #[.agg #[.int .i64 N, .slice A n c], .int .i64 s, f] w fun e w' =>
      e = .returned (.func (.func 150) #[] #[.pointer (some ⟨w.heap.size + 2, 0, none⟩), .pointer (some ⟨w.heap.size + 1, 0, none⟩), .pointer (some ⟨w.heap.size, 0, none⟩)]) ∧
      w' = ((w.alloc (.cells #[.int .i64 N, .slice A n c] 33)).alloc (.cells #[.int .i64 s] 2)).alloc (.cells #[.func (.func 127) #[] #[]] 151) := by
  subst hf
  go_enter Try.func126, Try.ntmps126
  go_wp2
  go_ret
  exact ⟨rfl, rfl⟩
set_option maxHeartbeats 400000 in
theorem nearestFrom_any (N s : Int) (A : Option Addr) (n c : Nat) (w : World) :
    Calls Try.prog 80 #[.agg #[.int .i64 N, .slice A n c], .int .i64 s] w fun e w' =>
      e = .returned (.func (.func 150) #[] #[.pointer (some ⟨w.heap.size + 3, 0, none⟩), .pointer (some ⟨w.heap.size + 2, 0, none⟩), .pointer (some ⟨w.heap.size + 1, 0, none⟩)]) ∧
      w' = (((w.alloc (.cells #[.int .i64 N, .slice A n c] 33)).alloc (.cells #[.int .i64 N, .slice A n c] 33)).alloc (.cells #[.int .i64 s] 2)).alloc (.cells #[.func (.func 127) #[] #[]] 151) := by
  go_enter Try.func80, Try.ntmps80
  go_wp2_with fail
  refine (guidedFrom_any N s A n c _ _ rfl).mono ?_
  rintro e w1 ⟨rfl, rfl⟩
  go_wp2
  go_ret
  exact ⟨by simp, rfl⟩

set_option maxRecDepth 100000 in
set_option maxHeartbeats 4000000 in
theorem distances_any (N s : Int) (A : Option Addr) (n c : Nat) (L : List Arc3) (hn : n = L.length) (hc : n ≤ c) (ho : okB N L = true) (h0 : 0 ≤ s) (h1 : s < N) (w : World) (H1 : ArcsAt w w.heap.size A L) :
    Calls Try.prog 85 #[.agg #[.int .i64 N, .slice A n c], .int .i64 s] w fun e w' => ∃ E : List Int, e = .returned (.agg (E.map (Value.int .i64)).toArray) ∧ E.length = 24 ∧ E.take N.toNat = distL N L s ∧ Bl w w' := by
  have K1 := Lib.hid H1
  have HN := Lib.hid hn
  have HO := Lib.hid ho
  clear H1 hn ho
  refine (callsIn_wide (n := 0)).1 ?_
  refine callsIn_of_wp_marks Try.func85 rfl trivial ?_ rfl
  simp only [Try.ntmps85, List.size_toArray, List.length_cons, List.length_nil, Nat.reduceAdd, Nat.reduceSub, Array.replicate_succ, Array.replicate_zero, List.push_toArray, List.append_toArray, List.nil_append, List.cons_append]
  gi_wp2_with fail
  have hN24 := (okB_elim HO.out).2.1
  gi_loopw [8] (fun i wr => ∃ j : Nat, j ≤ 24 ∧ i = .int .i64 j ∧ Bl ((w.alloc (.cells #[.int .i64 N, .slice A n c] 33)).alloc (.cells #[.int .i64 0, .int .i64 0, .int .i64 0, .int .i64 0, .int .i64 0, .int .i64 0, .int .i64 0, .int .i64 0, .int .i64 0, .int .i64 0, .int .i64 0, .int .i64 0, .int .i64 0, .int .i64 0, .int .i64 0, .int .i64 0, .int .i64 0, .int .i64 0, .int .i64 0, .int .i64 0, .int .i64 0, .int .i64 0, .int .i64 0, .int .i64 0] 114)) wr ∧
      ∃ E, NumsAt wr (w.heap.size + 2) E ∧ ∀ i (h : i < E.length), i < j → E[i] = -1) (fun i _ => 24 - (intOf i).toNat)
  case atStart =>
    refine ⟨0, by omega, rfl, (Bl.refl _).alloc_ _, List.replicate 24 0, ⟨by simp, by simp, fun i hi => ?_, fun i hi => ?_⟩, fun i h h' => absurd h' (by omega)⟩
    · rw [List.length_replicate] at hi
      rw [List.getElem_replicate]
      match i, hi with
      | 0, _ | 1, _ | 2, _ | 3, _ | 4, _ | 5, _ | 6, _ | 7, _ | 8, _ | 9, _ | 10, _ | 11, _ | 12, _ | 13, _ | 14, _ | 15, _ | 16, _ | 17, _ | 18, _ | 19, _ | 20, _ | 21, _ | 22, _ | 23, _ => simp [go_sem]
      | (k + 24), h => exact absurd h (by omega)
    · simp [go_sem]
  case round =>
    obtain ⟨j, hj, rfl, hbl, E, hE, hneg⟩ := hrel
    have HE := Lib.hid hE
    have NG := Lib.hid hneg
    have hbs := hbl.size
    have HB := Lib.hid hbl
    simp only [World.size_alloc] at hbs
    have hdl := hE.lt
    clear hneg hbl
    by_cases hlt : j < 24
    · have q0 := hE.cell j (by rw [hE.len]; exact hlt)
      have q1 := hE.free j hlt
      generalize E[j]'(by rw [hE.len]; exact hlt) = ej at q0
      clear hE
      gi_wp2_with fail
      go_roundw
      case rel =>
        refine ⟨j + 1, by omega, by go_num, HB.out.set_ (by simp) _, E.set j (-1), HE.out.set (-1), fun i h hi => ?_⟩
        rw [List.getElem_set]
        split
        · rfl
        · exact NG.out i (by simpa using h) (by omega)
      case measure => simp [intOf]; omega
    · have hE0 : E = keysL 24 [] := List.ext_getElem (by rw [hE.len, keysL_len]) fun i h1 h2 => by
        rw [NG.out i h1 (by have := hE.len; omega)]
        simp [keysL, keyOf]
      have HE0 := Lib.hid hE0
      obtain ⟨hgc0, hgc1⟩ : wr.cell? ⟨w.heap.size, 0, none⟩ = some (.int .i64 N) ∧ wr.cell? ⟨w.heap.size, 1, none⟩ = some (.slice A n c) := by
        have hx := (bcell HB.out).1
        exact ⟨(hx _ _ (by simp; omega)).trans (by simp [go_sem]), (hx _ _ (by simp; omega)).trans (by simp [go_sem])⟩
      clear hE hE0
      gi_wp2_with fail
      refine ⟨trivial, rfl, CallsIn.mono (callsIn_wide.2 (nearestFrom_any N s A n c _)) ?_⟩
      rintro e w3 ⟨rfl, hw3⟩
      have HW3 := Lib.hid hw3
      clear hw3
      gi_wp2_with fail
      have hs3 : w3.heap.size = wr.heap.size + 4 := by rw [HW3.out]; simp
      have hb3 : Bl wr w3 := by rw [HW3.out]; exact ((((Bl.refl wr).alloc_ _).alloc_ _).alloc_ _).alloc_ _
      have hbw : Bl w wr := (((Bl.refl w).alloc_ _).alloc_ _).trans_ HB.out
      have hin : NIn w3 (wr.heap.size + 3) (wr.heap.size + 2) (wr.heap.size + 1) N s A n c L := by
        refine ⟨?_, ?_, ?_, ?_, (K1.out.bl hbw).bl hb3⟩ <;> (rw [HW3.out]; simp [go_sem])
      have hn0 : NumsAt w3 (w.heap.size + 2) (keysL 24 []) := by rw [← HE0.out]; exact HE.out.bl hb3
      have HN0 := Lib.hid hn0
      clear hgc0 hgc1
      refine wpIn_range (gf := 150) (lb := #[.pointer (some ⟨wr.heap.size + 3, 0, none⟩), .pointer (some ⟨wr.heap.size + 2, 0, none⟩), .pointer (some ⟨wr.heap.size + 1, 0, none⟩)]) ?e1 ?e2
        (near_stops N s A n c (wr.heap.size + 3) (wr.heap.size + 2) (wr.heap.size + 1) L HN.out hc HO.out h0 h1 w3 hin) (Bl.refl _) (fun i hi => inBlocks_lt hin hi) ?e3
        (fun pre K W' => (∀ i, K i ↔ i = w.heap.size + 2) ∧ NumsAt W' (w.heap.size + 2) (keysL 24 pre))
        (fun _ _ _ _ => False)
        (fun pre x a K W' => ∃ xb, (∀ i, K i ↔ (i = w.heap.size + 2 ∨ i = xb)) ∧ NumsAt W' (w.heap.size + 2) (keysL 24 pre) ∧ (xb ≠ w.heap.size + 2 ∧ W'.cell? ⟨xb, 0, none⟩ = some (.int .i64 x.1) ∧ W'.cell? ⟨xb, 1, none⟩ = some (.int .i64 x.2)) ∧
          a = { tmps := #[.agg #[.int .i64 N, .slice A n c], .int .i64 s, .pointer (some ⟨w.heap.size, 0, none⟩), undef, .pointer (some ⟨w.heap.size + 1, 0, none⟩), .pointer (some ⟨w.heap.size + 1 + 1, 0, none⟩), u6, .pointer (some ⟨xb, 0, none⟩), .int .i64 j, .bool (decide ((j : Int) < 24)), u10, u11, u12, u13,
            .agg #[.int .i64 N, .slice A n c], .int .i64 s, .func (.func 150) #[] #[.pointer (some ⟨wr.heap.size + 3, 0, none⟩), .pointer (some ⟨wr.heap.size + 2, 0, none⟩), .pointer (some ⟨wr.heap.size + 1, 0, none⟩)], .agg #[.int .i64 x.1, .int .i64 x.2], undef, undef, undef, undef, undef, undef], defers := [] })
        (fun i => i = w.heap.size + 2) ?hK0 ?hI (fun _ _ _ _ _ h _ => h) ?hM ?hlt ⟨fun i => Iff.rfl, hn0⟩ ?assign ?body ?done (fun _ _ _ _ _ _ _ h _ _ _ => h.elim)
      case e1 => rfl
      case e2 => exact enters_of Try.func150 (by kernel_rfl) rfl
      case e3 => exact fun x => rfl
      case hK0 =>
        rintro i rfl hi
        have hd := HE.out.lt
        rcases hi with h | h | h | ⟨hl, h⟩
        · omega
        · omega
        · omega
        · obtain ⟨g, off, rfl, hg, -⟩ := K1.out hl
          have : g = w.heap.size + 2 := by simpa [blockOf] using h
          omega
      case hI =>
        rintro pre K X Y ⟨hk, hnum⟩ ht
        exact ⟨hk, hnum.turn ht (fun h => h ((hk _).2 rfl))⟩
      case hM =>
        rintro pre x a K X Y ⟨xb, hk, hnum, ⟨hne, hc0, hc1⟩, he⟩ ht
        have hx := World.block_lt_of_cell? _ _ hc0
        have hs := fun o => (ht.cells hx (fun h => h ((hk _).2 (.inr rfl))) o).1
        exact ⟨xb, hk, hnum.turn ht (fun h => h ((hk _).2 (.inl rfl))), ⟨hne, (hs 0).trans hc0, (hs 1).trans hc1⟩, he⟩
      case hlt =>
        rintro pre K X ⟨hk, hnum⟩ i hi
        rw [(hk i).1 hi]
        exact hnum.lt
      case assign =>
        rintro l pre ⟨x, y⟩ K W R ⟨hk, hnum⟩ hpre hR
        have HK := Lib.hid hk
        have HNM := Lib.hid hnum
        have HR := Lib.hid hR
        clear hk hnum hpre hR hs3 hb3 hbw hin hn0
        dsimp only [encI]
        gi_wp2_with fail
        have hlt := HNM.out.lt
        refine HR.out _ (fun i => i = w.heap.size + 2 ∨ i = W.heap.size) _ ⟨Turn.of_bl (by repeat' (first | exact Bl.refl _ | with_reducible assumption | with_reducible refine Bl.drew_ ?_ | with_reducible refine Bl.drewN_ ?_ _ | with_reducible refine Bl.alloc_ ?_ _ | with_reducible refine Bl.trans_ ?_ (by assumption) | with_reducible refine Bl.trans_ ?_ (And.left (by assumption)))), fun i hi => hi.imp (fun h => (HK.out i).2 h) (fun h => by rw [h]; exact Nat.le_refl _)⟩ ⟨W.heap.size, fun i => Iff.rfl, HNM.out.bl (by repeat' (first | exact Bl.refl _ | with_reducible assumption | with_reducible refine Bl.drew_ ?_ | with_reducible refine Bl.drewN_ ?_ _ | with_reducible refine Bl.alloc_ ?_ _ | with_reducible refine Bl.trans_ ?_ (by assumption) | with_reducible refine Bl.trans_ ?_ (And.left (by assumption)))), ⟨by omega, by simp [go_sem], by simp [go_sem]⟩, rfl⟩
      case body =>
        rintro l pre ⟨x, y⟩ a₁ K W ⟨xb, hk, hnum, ⟨hne, hc0, hc1⟩, rfl⟩ ⟨Z, hZ⟩
        obtain ⟨f1, f2, f3, -, -⟩ := NextFacts (arcsIn_of_ok HO.out) hN24 hZ
        simp only at f1 f2 f3
        obtain ⟨u, rfl⟩ : ∃ u : Nat, y = u := ⟨y.toNat, by omega⟩
        have hu : u < 24 := by omega
        have hu0 : (0 : Int) ≤ (u : Int) := by omega
        have hu1 : (u : Int) < 24 := by omega
        have hkl := keysL_len 24 pre
        have q0 := hnum.cell u (by rw [hkl]; exact hu)
        have q1 := hnum.free u hu
        generalize (keysL 24 pre)[u]'(by rw [hkl]; exact hu) = ej at q0
        have hdl' := hnum.lt
        have HK := Lib.hid hk
        have HNM := Lib.hid hnum
        have F3 := Lib.hid f3
        clear hk hnum f1 f2 f3 hs3 hb3 hbw hin hn0 hZ hkl
        simp only at hc0 hc1
        gi_wp2_with fail
        refine ⟨fun i => i = w.heap.size + 2, ⟨Turn.set (p := ⟨w.heap.size + 2, u, none⟩) (Turn.refl K W) (.inl ((HK.out _).2 (.inl rfl))) _, fun i hi => .inl ((HK.out i).2 (.inl hi))⟩, fun i => Iff.rfl, ?_⟩
        have e : keysL 24 (pre ++ [(x, (u : Int))]) = (keysL 24 pre).set u x := keysL_snoc (x := (x, (u : Int))) F3.out hu0
        rw [e]
        exact HNM.out.set x
      case done =>
        rintro D xs K W hD hall ⟨hk, hnum⟩ hT hKD hdef
        have HK := Lib.hid hk
        have HNM := Lib.hid hnum
        have HT := Lib.hid hT
        have HA := Lib.hid hall
        have HD := Lib.hid hdef
        clear hk hnum hT hall hdef hs3 hb3 hbw hin hn0
        have hrb : W.there (w.heap.size + 1) 0 24 := by
          have hT2 := HT.out
          refine there_of_cells fun i hi => ?_
          have hbs' := HB.out.size
          simp only [World.size_alloc] at hbs'
          have hl3 : w.heap.size + 1 < w3.heap.size := by rw [HW3.out]; simp; omega
          obtain ⟨x1, x2⟩ := HT.out.cells hl3 (fun h => by omega) i
          obtain ⟨y1, y2⟩ := bcell HB.out
          have hl0 : w.heap.size + 1 < wr.heap.size := by omega
          have z1 : w3.cell? ⟨w.heap.size + 1, i, none⟩ = wr.cell? ⟨w.heap.size + 1, i, none⟩ := by rw [HW3.out]; exact (bcell (show Bl wr _ from (by repeat' (first | exact Bl.refl _ | with_reducible assumption | with_reducible refine Bl.drew_ ?_ | with_reducible refine Bl.drewN_ ?_ _ | with_reducible refine Bl.alloc_ ?_ _ | with_reducible refine Bl.trans_ ?_ (by assumption) | with_reducible refine Bl.trans_ ?_ (And.left (by assumption)))))).1 _ _ hl0
          have z2 : w3.frozen? ⟨w.heap.size + 1, i, none⟩ = wr.frozen? ⟨w.heap.size + 1, i, none⟩ := by rw [HW3.out]; exact (bcell (show Bl wr _ from (by repeat' (first | exact Bl.refl _ | with_reducible assumption | with_reducible refine Bl.drew_ ?_ | with_reducible refine Bl.drewN_ ?_ _ | with_reducible refine Bl.alloc_ ?_ _ | with_reducible refine Bl.trans_ ?_ (by assumption) | with_reducible refine Bl.trans_ ?_ (And.left (by assumption)))))).2 _ _ hl0
          rw [x1, x2, z1, z2, y1 _ _ (by simp), y2 _ _ (by simp)]
          match i, hi with
          | 0, _ | 1, _ | 2, _ | 3, _ | 4, _ | 5, _ | 6, _ | 7, _ | 8, _ | 9, _ | 10, _ | 11, _ | 12, _ | 13, _ | 14, _ | 15, _ | 16, _ | 17, _ | 18, _ | 19, _ | 20, _ | 21, _ | 22, _ | 23, _ => simp [go_sem]
          | (k + 24), h => exact absurd h (by omega)
        have HRB := Lib.hid hrb
        have hsz : (Try.prog.info? 114).map (·.size) = some 24 := by kernel_rfl
        have HSZ := Lib.hid hsz
        clear hrb hsz
        gi_wp2_with (first | (refine wpListIn_load_mid rfl 114 (.tmp 5) rfl (w.heap.size + 2) 0 rfl (csI (keysL 24 xs)) _ HNM.out.range Try.underlying114 rfl (by rw [csI_len, keysL_len]; exact HSZ.out) ?_) | (refine wpListIn_store_mid rfl 114 (.tmp 4) (.tmp 23) rfl (w.heap.size + 1) 0 (csI (keysL 24 xs)).toArray rfl rfl ?c1 ?c2 (csI_one _) ?_))
        case c1 => simpa [csI_len, keysL_len] using HRB.out
        case c2 => simpa [csI_len, keysL_len] using HSZ.out
        have hl3 : w.heap.size + 1 < w3.heap.size := by
          have := HB.out.size
          rw [HW3.out]
          simp only [World.size_alloc] at this ⊢
          omega
        have hDl : D < W.heap.size := (Array.getElem?_eq_some_iff.1 HD.out).1
        have hts : Turn (fun i => i = w.heap.size + 1) W (W.setCells (w.heap.size + 1) 0 (csI (keysL 24 xs))) := Turn.setCells_ (S := fun i => i = w.heap.size + 1) (w.heap.size + 1) rfl _ _ _ (Turn.refl _ _)
        have hD2 := (hts.block D hDl (by omega)).trans HD.out
        have hnums := NumsAt.stored (keysL_len 24 xs) (Nat.lt_of_lt_of_le hl3 HT.out.size) HRB.out
        have hnums2 := hnums.turn (turn_put (fun i => i = D) _ (.deferred none) rfl) (show ¬ (w.heap.size + 1 = D) by omega)
        refine ⟨by simp, .inl ⟨_, _, rfl, run_takeDeferred hD2, ?_⟩⟩
        refine ⟨_, results_cell_mid rfl _ _ (w.heap.size + 1) (csI (keysL 24 xs)) _ rfl hnums2.range Try.underlying114 rfl (by rw [csI_len, keysL_len]; exact HSZ.out), ?_⟩
        refine ⟨keysL 24 xs, rfl, keysL_len _ _, ?_, ?_⟩
        · rw [keysL_take (by omega)]
          exact HA.out.keys (arcsIn_of_ok HO.out) hN24
        · have hb3 : Bl w w3 := by
            rw [HW3.out]
            exact ((((Bl.refl w).alloc_ _).alloc_ _).trans_ HB.out).trans_ (((((Bl.refl wr).alloc_ _).alloc_ _).alloc_ _).alloc_ _)
          have hbW : Bl w W := Turn.to_bl hb3 HT.out (fun i hi => by rw [hi]; omega)
          have h4 := Bl.setCells_ (w.heap.size + 1) (by omega) (csI (keysL 24 xs)) 0 W hbW
          exact Turn.to_bl h4 (turn_put (fun i => i = D) _ (.deferred none) rfl) (fun i hi => by rw [hi]; omega)

end Go.Proofs.Ytlddileiecnkjaa
