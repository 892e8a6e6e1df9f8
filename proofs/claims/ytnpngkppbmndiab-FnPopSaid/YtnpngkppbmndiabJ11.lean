/-
  What is proved here: HeapPush, as the model has it. No conditions beyond those that each theorem states.
-/
import Derived.Test.YtnpngkppbmndiabJ9
set_option linter.unusedSimpArgs false
set_option linter.unusedVariables false
namespace Go.Proofs.Ytnpngkppbmndiab
open Go.RowKit

theorem step_append_any {P : Program} (w : World) {ops : Array Oper} {o : Oper} {a : Act} {K : Act → World → Prop} {Q : Exit → Act → World → Prop} {E : Prop} (hgd : o.guard = none) (s x : Operand) (t : TypeId)
    (ho : o.op = .call { callee := .builtin .append, args := #[s, x], argTypes := #[t, t] })
    (base : Nat) (e : TypeId) (i : TypeInfo) (z : Value) (size bytes : Nat) (ht : P.underlying t = some (.slice e)) (hi : P.info? e = some i) (hz : i.zero = some z)
    (hsize : i.size = size) (hby : i.bytes = bytes) (hzs : z.cells.size = size) (hsz : 0 < size)
    (v : Value) (n : Nat) (xs : List Value) (hs : a.eval s = v) (hown : w.ownsRow base e size v n xs)
    (B : Nat) (A : Option Addr) (m c : Nat) (news : List Value) (hx : a.eval x = .slice A m c) (hr : Reads w B size A m news) (h1 : ∀ u ∈ news, u.oneCell' = true)
    (h63 : n + m ≤ maxLen) (hbytes : (n + m) * bytes ≤ 140737488355328) (hbase : base ≤ w.heap.size)
    (h : ∀ v' w', w'.ownsRow base e size v' (n + m) (xs ++ news) → w.grownBy w' v.ownBlock → (v'.ownBlock = v.ownBlock ∨ v'.ownBlock = some w.heap.size) → K (a.put o.dst v') w') :
    if Region.wanted o (yielded ops a.tmps) = true then Oper.wp P o a w K Q else E := by
  have hw : Region.wanted o (yielded ops a.tmps) = true := by simp [Region.wanted, hgd]
  rw [if_pos hw]
  exact wp_append_any w s x t ho base e i z size bytes ht hi hz hsize hby hzs hsz v n xs hs hown B A m c news hx hr h1 h63 hbytes hbase h

theorem reads_two {w : World} {g B : Nat} {x y : Int} (hB : g < B) (h0 : w.cell? ⟨g, 0, none⟩ = some (.int .i64 x)) (h1 : w.cell? ⟨g, 1, none⟩ = some (.int .i64 y)) : Reads w B 2 (some ⟨g, 0, none⟩) 1 [.int .i64 x, .int .i64 y] := by
  refine ⟨rfl, fun _ => ⟨_, rfl, hB, fun j u hj => ?_⟩⟩
  match j, hj with
  | 0, hj => simp at hj; subst hj; simpa [Addr.add] using h0
  | 1, hj => simp at hj; subst hj; simpa [Addr.add] using h1
  | (j + 2), hj => simp at hj

set_option maxRecDepth 100000 in
set_option maxHeartbeats 2000000 in
theorem specHeapPush_any (A : Option Addr) (n c : Nat) (L : List It) (x y : Int) (hn : n = L.length) (w : World) (hm : n ≤ 1048576) (H1 : ItemsAt w w.heap.size A L) :
    Calls Try.prog 17 #[.slice A n c, .agg #[.int .i64 x, .int .i64 y]] w (ItemsOk (pushR L (x, y)) (pushB L (x, y)) w) := by
  obtain ⟨i0, hi, hz0, hz1, hz2⟩ := info_parts infoItem
  have I0 := Lib.hid hi
  have I1 := Lib.hid hz0
  have I2 := Lib.hid hz1
  have I3 := Lib.hid hz2
  have K1 := Lib.hid H1
  have HN := Lib.hid hn
  clear H1 hn hi hz0 hz1 hz2
  cases hhb : heapI L with
  | false =>
    have HB := Lib.hid hhb
    clear hhb
    go_enter Try.func17, Try.ntmps17
    go_wp2_with fail
    refine (specHeapOk_any A n c L HN.out _ hm (ItemsAt.bl K1.out (by repeat' (first | exact Bl.refl _ | with_reducible assumption | with_reducible refine Bl.drew_ ?_ | with_reducible refine Bl.drewN_ ?_ _ | with_reducible refine Bl.alloc_ ?_ _ | with_reducible refine Bl.trans_ ?_ (by assumption) | with_reducible refine Bl.trans_ ?_ (And.left (by assumption)))))).mono ?_
    rintro e w1 ⟨rfl, hb1⟩
    rw [HB.out]
    go_wp2
    go_ret2
    exact ItemsOk.no (pushB_no1 HB.out) pushR_no rfl (by repeat' (first | exact Bl.refl _ | with_reducible assumption | with_reducible refine Bl.drew_ ?_ | with_reducible refine Bl.drewN_ ?_ _ | with_reducible refine Bl.alloc_ ?_ _ | with_reducible refine Bl.trans_ ?_ (by assumption) | with_reducible refine Bl.trans_ ?_ (And.left (by assumption))))
  | true =>
    have HB := Lib.hid hhb
    clear hhb
    by_cases h100 : n = 100
    · have LN := Lib.hid (show L.length = 100 from by rw [← HN.out]; exact h100)
      subst h100
      go_enter Try.func17, Try.ntmps17
      go_wp2_with fail
      refine (specHeapOk_any A 100 c L HN.out _ hm (ItemsAt.bl K1.out (by repeat' (first | exact Bl.refl _ | with_reducible assumption | with_reducible refine Bl.drew_ ?_ | with_reducible refine Bl.drewN_ ?_ _ | with_reducible refine Bl.alloc_ ?_ _ | with_reducible refine Bl.trans_ ?_ (by assumption) | with_reducible refine Bl.trans_ ?_ (And.left (by assumption)))))).mono ?_
      rintro e w1 ⟨rfl, hb1⟩
      rw [HB.out]
      go_wp2
      go_ret2
      exact ItemsOk.no (pushB_no2 LN.out) pushR_no rfl (by repeat' (first | exact Bl.refl _ | with_reducible assumption | with_reducible refine Bl.drew_ ?_ | with_reducible refine Bl.drewN_ ?_ _ | with_reducible refine Bl.alloc_ ?_ _ | with_reducible refine Bl.trans_ ?_ (by assumption) | with_reducible refine Bl.trans_ ?_ (And.left (by assumption))))
    · have g0 : ((n : Int) == 100) = false := by simp; omega
      have LN := Lib.hid (show L.length ≠ 100 from by rw [← HN.out]; exact h100)
      clear h100
      obtain ⟨p, hp⟩ : ∃ p, placeI L y = p := ⟨_, rfl⟩
      have PP := Lib.hid hp
      clear hp
      by_cases hpos : 0 ≤ p
      · go_enter Try.func17, Try.ntmps17
        go_wp2_with fail
        refine (specHeapOk_any A n c L HN.out _ hm (ItemsAt.bl K1.out (by repeat' (first | exact Bl.refl _ | with_reducible assumption | with_reducible refine Bl.drew_ ?_ | with_reducible refine Bl.drewN_ ?_ _ | with_reducible refine Bl.alloc_ ?_ _ | with_reducible refine Bl.trans_ ?_ (by assumption) | with_reducible refine Bl.trans_ ?_ (And.left (by assumption)))))).mono ?_
        rintro e w1 ⟨rfl, hb1⟩
        rw [HB.out]
        have q1 := (box2 hb1).2
        go_wp2_with fail
        refine (l2At_at A n c L y p PP.out HN.out _ hm (ItemsAt.bl K1.out (by repeat' (first | exact Bl.refl _ | with_reducible assumption | with_reducible refine Bl.drew_ ?_ | with_reducible refine Bl.drewN_ ?_ _ | with_reducible refine Bl.alloc_ ?_ _ | with_reducible refine Bl.trans_ ?_ (by assumption) | with_reducible refine Bl.trans_ ?_ (And.left (by assumption)))))).mono ?_
        rintro e w2 ⟨rfl, hb2⟩
        go_wp2
        go_ret2
        exact ItemsOk.no (pushB_no3 (by rw [PP.out]; exact hpos)) pushR_no rfl (by repeat' (first | exact Bl.refl _ | with_reducible assumption | with_reducible refine Bl.drew_ ?_ | with_reducible refine Bl.drewN_ ?_ _ | with_reducible refine Bl.alloc_ ?_ _ | with_reducible refine Bl.trans_ ?_ (by assumption) | with_reducible refine Bl.trans_ ?_ (And.left (by assumption))))
      · have hpos' : decide (0 ≤ p) = false := by simp; omega
        have PB := Lib.hid (pushB_yes (x := (x, y)) HB.out LN.out (by rw [PP.out]; omega))
        have h99 := pushB_len PB.out
        clear hpos
        go_enter Try.func17, Try.ntmps17
        go_wp2_with fail
        refine (specHeapOk_any A n c L HN.out _ hm (ItemsAt.bl K1.out (by repeat' (first | exact Bl.refl _ | with_reducible assumption | with_reducible refine Bl.drew_ ?_ | with_reducible refine Bl.drewN_ ?_ _ | with_reducible refine Bl.alloc_ ?_ _ | with_reducible refine Bl.trans_ ?_ (by assumption) | with_reducible refine Bl.trans_ ?_ (And.left (by assumption)))))).mono ?_
        rintro e w1 ⟨rfl, hb1⟩
        rw [HB.out]
        obtain ⟨q0, q1⟩ := box2 hb1
        go_wp2_with fail
        refine (l2At_at A n c L y p PP.out HN.out _ hm (ItemsAt.bl K1.out (by repeat' (first | exact Bl.refl _ | with_reducible assumption | with_reducible refine Bl.drew_ ?_ | with_reducible refine Bl.drewN_ ?_ _ | with_reducible refine Bl.alloc_ ?_ _ | with_reducible refine Bl.trans_ ?_ (by assumption) | with_reducible refine Bl.trans_ ?_ (And.left (by assumption)))))).mono ?_
        rintro e w2 ⟨rfl, hb2⟩
        have hb2' := hb1.trans_ hb2
        have hbw2 := Lib.hid (show Bl w w2 from (by repeat' (first | exact Bl.refl _ | with_reducible assumption | with_reducible refine Bl.drew_ ?_ | with_reducible refine Bl.drewN_ ?_ _ | with_reducible refine Bl.alloc_ ?_ _ | with_reducible refine Bl.trans_ ?_ (by assumption) | with_reducible refine Bl.trans_ ?_ (And.left (by assumption)))))
        obtain ⟨q0, q1⟩ := box2 hb2'
        have hbx : w.heap.size < w2.heap.size := by have := hb2'.size; simp at this; omega
        have S1 := Lib.hid (start_at w2.heap.size w2.drew (Nat.le_refl _))
        have S2 := Lib.hid (World.ownsRow.alloc S1.out (.cells #[.int .i64 x, .int .i64 y] 33))
        have S3 := Lib.hid (start_at w2.heap.size (w2.drew.alloc (.cells #[.int .i64 x, .int .i64 y] 33)) (by simp))
        have S3' := Lib.hid (show (((w2.drew.alloc (.cells #[.int .i64 x, .int .i64 y] 33)).alloc (.cells #[] 33))).ownsRow w2.heap.size 33 2 (.slice (some ⟨w2.heap.size + 1, 0, none⟩) 0 0) 0 [] from by have h := S3.out; simpa using h)
        have RD := Lib.hid (fun wx (h : Bl w2 wx) => (((ItemsAt.bl' K1.out (Nat.le_refl _) (hbw2.out.trans_ h)).reads HN.out).more hbw2.out.size))
        go_wp2_with fail
        have SH := Lib.hid (show ∀ wx, Bl w2 wx → Bl w2 wx ∧ wx.cell? ⟨w.heap.size, 0, none⟩ = some (.int .i64 x) ∧ wx.cell? ⟨w.heap.size, 1, none⟩ = some (.int .i64 y) from fun wx h => ⟨h, ((bcell h).1 _ _ hbx).trans q0, ((bcell h).1 _ _ hbx).trans q1⟩)
        clear q0 q1
        go_region_held3 (fun wx => Bl w2 wx ∧ wx.cell? ⟨w.heap.size, 0, none⟩ = some (.int .i64 x) ∧ wx.cell? ⟨w.heap.size, 1, none⟩ = some (.int .i64 y)) (exact SH.out _ (by repeat' (first | exact Bl.refl _ | with_reducible assumption | with_reducible refine Bl.drew_ ?_ | with_reducible refine Bl.drewN_ ?_ _ | with_reducible refine Bl.alloc_ ?_ _ | with_reducible refine Bl.trans_ ?_ (by assumption) | with_reducible refine Bl.trans_ ?_ (And.left (by assumption))))) (first | (refine step_append_any _ rfl (.tmp 22) (.tmp 23) 25 rfl w2.heap.size 33 i0 _ 2 16 Try.underlying25 I0.out I1.out I2.out I3.out rfl (by decide) (.slice (some ⟨w2.heap.size, 0, none⟩) 0 0) 0 [] rfl S1.out w2.heap.size A n c (cs2 L) rfl (RD.out _ (by repeat' (first | exact Bl.refl _ | with_reducible assumption | with_reducible refine Bl.drew_ ?_ | with_reducible refine Bl.drewN_ ?_ _ | with_reducible refine Bl.alloc_ ?_ _ | with_reducible refine Bl.trans_ ?_ (by assumption) | with_reducible refine Bl.trans_ ?_ (And.left (by assumption))))) (one2 L) (by unfold maxLen; omega) (by omega) (by simp <;> omega) ?_; intro v1 w3 hown1 hgr1 hbk1; try simp only [Nat.zero_add, List.nil_append] at hown1; have B3 : Bl w2 w3 := (show Bl w2 _ from (by repeat' (first | exact Bl.refl _ | with_reducible assumption | with_reducible refine Bl.drew_ ?_ | with_reducible refine Bl.drewN_ ?_ _ | with_reducible refine Bl.alloc_ ?_ _ | with_reducible refine Bl.trans_ ?_ (by assumption) | with_reducible refine Bl.trans_ ?_ (And.left (by assumption))))).grown_ hgr1 (fun g hg => by simp [Value.ownBlock] at hg; omega); have HO1 := Lib.hid hown1; have HG1 := Lib.hid hgr1.size; clear hown1 hgr1 hbk1) | (refine step_append_any _ rfl (.tmp 22) (.tmp 23) 25 rfl w2.heap.size 33 i0 _ 2 16 Try.underlying25 I0.out I1.out I2.out I3.out rfl (by decide) (.slice (some ⟨w2.heap.size, 0, none⟩) 0 0) 0 [] rfl S2.out w2.heap.size A n c (cs2 L) rfl (RD.out _ (by repeat' (first | exact Bl.refl _ | with_reducible assumption | with_reducible refine Bl.drew_ ?_ | with_reducible refine Bl.drewN_ ?_ _ | with_reducible refine Bl.alloc_ ?_ _ | with_reducible refine Bl.trans_ ?_ (by assumption) | with_reducible refine Bl.trans_ ?_ (And.left (by assumption))))) (one2 L) (by unfold maxLen; omega) (by omega) (by simp <;> omega) ?_; intro v1 w3 hown1 hgr1 hbk1; try simp only [Nat.zero_add, List.nil_append] at hown1; have B3 : Bl w2 w3 := (show Bl w2 _ from (by repeat' (first | exact Bl.refl _ | with_reducible assumption | with_reducible refine Bl.drew_ ?_ | with_reducible refine Bl.drewN_ ?_ _ | with_reducible refine Bl.alloc_ ?_ _ | with_reducible refine Bl.trans_ ?_ (by assumption) | with_reducible refine Bl.trans_ ?_ (And.left (by assumption))))).grown_ hgr1 (fun g hg => by simp [Value.ownBlock] at hg; omega); have r0 := hgr1.cell (a := ⟨w2.heap.size + 1, 0, none⟩) (v := .int .i64 x) (by simp [go_sem]) (by simp [Value.ownBlock] <;> omega); have r1 := hgr1.cell (a := ⟨w2.heap.size + 1, 1, none⟩) (v := .int .i64 y) (by simp [go_sem]) (by simp [Value.ownBlock] <;> omega); have HO1 := Lib.hid hown1; have HG1 := Lib.hid hgr1.size; clear hown1 hgr1 hbk1) | (refine step_append_any _ rfl (.tmp 22) (.tmp 23) 25 rfl w2.heap.size 33 i0 _ 2 16 Try.underlying25 I0.out I1.out I2.out I3.out rfl (by decide) (.slice (some ⟨w2.heap.size + 1, 0, none⟩) 0 0) 0 [] rfl S3'.out w2.heap.size A n c (cs2 L) rfl (RD.out _ (by repeat' (first | exact Bl.refl _ | with_reducible assumption | with_reducible refine Bl.drew_ ?_ | with_reducible refine Bl.drewN_ ?_ _ | with_reducible refine Bl.alloc_ ?_ _ | with_reducible refine Bl.trans_ ?_ (by assumption) | with_reducible refine Bl.trans_ ?_ (And.left (by assumption))))) (one2 L) (by unfold maxLen; omega) (by omega) (by simp <;> omega) ?_; intro v1 w3 hown1 hgr1 hbk1; try simp only [Nat.zero_add, List.nil_append] at hown1; have B3 : Bl w2 w3 := (show Bl w2 _ from (by repeat' (first | exact Bl.refl _ | with_reducible assumption | with_reducible refine Bl.drew_ ?_ | with_reducible refine Bl.drewN_ ?_ _ | with_reducible refine Bl.alloc_ ?_ _ | with_reducible refine Bl.trans_ ?_ (by assumption) | with_reducible refine Bl.trans_ ?_ (And.left (by assumption))))).grown_ hgr1 (fun g hg => by simp [Value.ownBlock] at hg; omega); have r0 := hgr1.cell (a := ⟨w2.heap.size, 0, none⟩) (v := .int .i64 x) (by simp [go_sem]) (by simp [Value.ownBlock] <;> omega); have r1 := hgr1.cell (a := ⟨w2.heap.size, 1, none⟩) (v := .int .i64 y) (by simp [go_sem]) (by simp [Value.ownBlock] <;> omega); have HO1 := Lib.hid hown1; have HG1 := Lib.hid hgr1.size; clear hown1 hgr1 hbk1) | (refine step_append_any _ rfl (.tmp 24) (.tmp 26) 25 rfl w2.heap.size 33 i0 _ 2 16 Try.underlying25 I0.out I1.out I2.out I3.out rfl (by decide) _ n (cs2 L) rfl (by first | exact HO1.out | exact World.ownsRow.alloc HO1.out _) _ _ 1 1 [.int .i64 x, .int .i64 y] rfl (reads_two (Nat.lt_succ_self _) (by first | assumption | simp [go_sem]) (by first | assumption | simp [go_sem])) (one2 [(x, y)]) (by unfold maxLen; omega) (by omega) (by have := HG1.out; simp at this ⊢; omega) ?_; intro v2 w4 hown2 hgr2 hbk2; have HO2 := Lib.hid hown2; have B4 : Bl w2 w4 := (B3.trans_ (show Bl w3 _ from (by repeat' (first | exact Bl.refl _ | with_reducible assumption | with_reducible refine Bl.drew_ ?_ | with_reducible refine Bl.drewN_ ?_ _ | with_reducible refine Bl.alloc_ ?_ _ | with_reducible refine Bl.trans_ ?_ (by assumption) | with_reducible refine Bl.trans_ ?_ (And.left (by assumption)))))).grown_ hgr2 (fun g hg => (World.ownsRow.lt HO1.out g hg).1); clear hown2 hgr2 hbk2))
        all_goals
          have B04 := Lib.hid (hbw2.out.trans_ B4)
          clear SH S1 S2 S3 S3' RD
          obtain ⟨A', c', rfl, -, -, -, hsome⟩ := Owns.shape (show Owns 33 2 w4 w2.heap.size v2 (n + 1) _ from HO2.out)
          obtain ⟨g, rfl, hBg, hgl, -⟩ := hsome (Nat.succ_pos _)
          have hl1 : n + 1 = (L ++ [(x, y)]).length := by simp; exact HN.out
          have R4 := Lib.hid (show RowI w4 g (n + 1) c' (L ++ [(x, y)]) from ⟨by unfold OwnI; rw [← hl1, cs2_append]; exact Owns.self_ (show Owns 33 2 w4 w2.heap.size _ (n + 1) _ from HO2.out), hl1⟩)
          clear hsome hl1
          go_wp2_with fail
          refine (l2Up_any g (n + 1) c' n _ _ (by have := HN.out; omega) R4.out (by omega)).mono ?_
          rintro e w5 ⟨rfl, hR5, hG5⟩
          have R5 := Lib.hid hR5
          have B5 := Lib.hid (B04.out.grown_ hG5 (fun i h => by injection h with h; have := hbw2.out.size; omega))
          clear hR5 hG5
          go_wp2
          go_ret2
          refine ⟨_, by rw [PB.out]; rfl, ?_, B5.out⟩
          rw [pushR_yes PB.out, ← HN.out]
          have h5 := R5.out.1
          have hl := R5.out.2
          unfold OwnI at h5 ⊢
          rw [← hl] at h5 ⊢
          exact Owns.at_base h5 (by have := hbw2.out.size; omega)

end Go.Proofs.Ytnpngkppbmndiab
