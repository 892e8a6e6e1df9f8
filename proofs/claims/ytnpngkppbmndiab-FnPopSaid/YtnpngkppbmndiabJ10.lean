/-
  What is proved here: HeapPop as the model has it. No conditions beyond those that each theorem states.
-/
import Derived.Test.YtnpngkppbmndiabJ7
set_option linter.unusedSimpArgs false
set_option linter.unusedVariables false
namespace Go.Proofs.Ytnpngkppbmndiab
open Go.RowKit

set_option maxRecDepth 100000 in
set_option maxHeartbeats 2000000 in
theorem specHeapPop_any (A : Option Addr) (n c : Nat) (L : List It) (hn : n = L.length) (w : World) (hm : n ≤ 1048576) (H1 : ItemsAt w w.heap.size A L) :
    Calls Try.prog 22 #[.slice A n c] w (PopOk (popRest L) (popFirst L) (popB L) w) := by
  obtain ⟨i0, hi, hz0, hz1, hz2⟩ := info_parts infoItem
  have I0 := Lib.hid hi
  have I1 := Lib.hid hz0
  have I2 := Lib.hid hz1
  have I3 := Lib.hid hz2
  have K1 := Lib.hid H1
  have HN := Lib.hid hn
  clear H1 hn hi hz0 hz1 hz2
  cases hhb : heapI L with
  | false =>
    have HB := Lib.hid hhb
    clear hhb
    go_enter Try.func22, Try.ntmps22
    go_wp2_with fail
    refine (specHeapOk_any A n c L HN.out _ hm (ItemsAt.bl K1.out (by repeat' (first | exact Bl.refl _ | with_reducible assumption | with_reducible refine Bl.drew_ ?_ | with_reducible refine Bl.drewN_ ?_ _ | with_reducible refine Bl.alloc_ ?_ _ | with_reducible refine Bl.trans_ ?_ (by assumption) | with_reducible refine Bl.trans_ ?_ (And.left (by assumption)))))).mono ?_
    rintro e w1 ⟨rfl, hb1⟩
    have q0 := (box2 hb1).1
    have q1 := (box2 hb1).2
    have f0 := ((bcell hb1).2 w.heap.size 0 (by simp)).trans (show _ = false from by simp [go_sem])
    have f1 := ((bcell hb1).2 w.heap.size 1 (by simp)).trans (show _ = false from by simp [go_sem])
    rw [HB.out]
    go_wp2
    refine bodyPost_ret (v := .tuple #[.slice none 0 0, .agg #[.int .i64 0, .int .i64 0], .bool false]) (by simp [results, Try.results22, go_sem, q0, q1]) rfl (PopOk.no (popB_no1 HB.out) rfl (Bl.set_ (Bl.set_ (by repeat' (first | exact Bl.refl _ | with_reducible assumption | with_reducible refine Bl.drew_ ?_ | with_reducible refine Bl.drewN_ ?_ _ | with_reducible refine Bl.alloc_ ?_ _ | with_reducible refine Bl.trans_ ?_ (by assumption) | with_reducible refine Bl.trans_ ?_ (And.left (by assumption)))) (Nat.le_refl _) _) (Nat.le_refl _) _))
  | true =>
    have HB := Lib.hid hhb
    clear hhb
    rcases n with _ | m
    · have hL0 : L = [] := List.eq_nil_of_length_eq_zero HN.out.symm
      subst hL0
      go_enter Try.func22, Try.ntmps22
      go_wp2_with fail
      refine (specHeapOk_any A 0 c [] HN.out _ hm (ItemsAt.bl K1.out (by repeat' (first | exact Bl.refl _ | with_reducible assumption | with_reducible refine Bl.drew_ ?_ | with_reducible refine Bl.drewN_ ?_ _ | with_reducible refine Bl.alloc_ ?_ _ | with_reducible refine Bl.trans_ ?_ (by assumption) | with_reducible refine Bl.trans_ ?_ (And.left (by assumption)))))).mono ?_
      rintro e w1 ⟨rfl, hb1⟩
      have q0 := (box2 hb1).1
      have q1 := (box2 hb1).2
      have f0 := ((bcell hb1).2 w.heap.size 0 (by simp)).trans (show _ = false from by simp [go_sem])
      have f1 := ((bcell hb1).2 w.heap.size 1 (by simp)).trans (show _ = false from by simp [go_sem])
      rw [HB.out]
      go_wp2
      refine bodyPost_ret (v := .tuple #[.slice none 0 0, .agg #[.int .i64 0, .int .i64 0], .bool false]) (by simp [results, Try.results22, go_sem, q0, q1]) rfl (PopOk.no popB_no2 rfl (Bl.set_ (Bl.set_ (by repeat' (first | exact Bl.refl _ | with_reducible assumption | with_reducible refine Bl.drew_ ?_ | with_reducible refine Bl.drewN_ ?_ _ | with_reducible refine Bl.alloc_ ?_ _ | with_reducible refine Bl.trans_ ?_ (by assumption) | with_reducible refine Bl.trans_ ?_ (And.left (by assumption)))) (Nat.le_refl _) _) (Nat.le_refl _) _))
    · have PB := Lib.hid (popB_yes HB.out (by have := HN.out; omega))
      have key : ∀ d : Bool, decide (0 < m) = d → Calls Try.prog 22 #[.slice A (m + 1) c] w (PopOk (popRest L) (popFirst L) (popB L) w) := by
        intro d hd
        have hdd : decide ((0 : Int) < (m : Int)) = d := by rw [← hd]; simp
        have HD := Lib.hid hdd
        have HD0 := Lib.hid hd
        clear hd hdd
        go_enter Try.func22, Try.ntmps22
        go_wp2_with fail
        refine (specHeapOk_any A (m + 1) c L HN.out _ hm (ItemsAt.bl K1.out (by repeat' (first | exact Bl.refl _ | with_reducible assumption | with_reducible refine Bl.drew_ ?_ | with_reducible refine Bl.drewN_ ?_ _ | with_reducible refine Bl.alloc_ ?_ _ | with_reducible refine Bl.trans_ ?_ (by assumption) | with_reducible refine Bl.trans_ ?_ (And.left (by assumption)))))).mono ?_
        rintro e w1 ⟨rfl, hb1⟩
        have HB1 := Lib.hid hb1
        have hbw1 := Lib.hid (show Bl w w1 from (by repeat' (first | exact Bl.refl _ | with_reducible assumption | with_reducible refine Bl.drew_ ?_ | with_reducible refine Bl.drewN_ ?_ _ | with_reducible refine Bl.alloc_ ?_ _ | with_reducible refine Bl.trans_ ?_ (by assumption) | with_reducible refine Bl.trans_ ?_ (And.left (by assumption)))))
        have s1 := hb1.size
        simp at s1
        clear hb1
        rw [HB.out]
        have START := Lib.hid (start_at w1.heap.size w1 (Nat.le_refl _))
        go_wp2_with (at_builtin; refine wpList_append_any _ rfl (.tmp 19) (.tmp 20) _ rfl w1.heap.size 33 i0 _ 2 16 Try.underlying25 I0.out I1.out I2.out I3.out rfl (by decide) _ 0 [] rfl (START.out) (w1.heap.size) A (m + 1) c (cs2 L) rfl ?cr (one2 L) ?c3 ?c4 ?c5 ?_)
        case cr => exact ((ItemsAt.bl' K1.out (Nat.le_refl _) (hbw1.out.trans_ ((Bl.refl w1).alloc_ _))).reads HN.out).more hbw1.out.size
        case c3 => unfold maxLen; omega
        case c4 => omega
        case c5 => simp <;> omega
        intro v w2 hown hgr hblk
        try simp only [Nat.zero_add, List.nil_append] at hown
        have O := Lib.hid (show Owns 33 2 w2 w1.heap.size v (m + 1) (cs2 L) from hown)
        have B2 : Bl w1 w2 := ((Bl.refl w1).alloc_ _).grown_ hgr (fun g hg => by simp [Value.ownBlock] at hg; omega)
        clear hown hgr hblk
        obtain ⟨A1, c1, rfl, -, -, -, hsome⟩ := Owns.shape O.out
        obtain ⟨g, rfl, hBg, hgl, -⟩ := hsome (by omega)
        have R := Lib.hid (show RowI w2 g (m + 1) c1 L from ⟨by unfold OwnI; rw [← HN.out]; exact Owns.self_ O.out, HN.out⟩)
        clear hsome
        have hroom := R.out.room
        obtain ⟨hfz, -, hc⟩ := R.out.cells
        obtain ⟨a1, a2⟩ := hc 0 (by have := HN.out; omega)
        obtain ⟨b1, b2⟩ := hc m (by have := HN.out; omega)
        have f1 := hfz 0
        have f2 := hfz 1
        rw [Nat.zero_mul] at a1 a2
        clear hfz hc
        generalize hx : (atI L 0).1 = x at a1
        generalize hy : (atI L 0).2 = y at a2
        generalize hx' : (atI L m).1 = x' at b1
        generalize hy' : (atI L m).2 = y' at b2
        have X := Lib.hid (show atI L 0 = (x, y) from by rw [← hx, ← hy])
        have X' := Lib.hid (show atI L m = (x', y') from by rw [← hx', ← hy'])
        clear hx hy hx' hy'
        have j0 : (m : Int) < ((m + 1 : Nat) : Int) := by omega
        have j1 : (0 : Int) < ((m + 1 : Nat) : Int) := by omega
        have j2 : (m : Int) ≤ (c1 : Int) := by omega
        have L1 : ((L.set 0 (x', y')).take m) = ((L.set 0 (atI L (L.length - 1))).take (L.length - 1)) := by
          rw [← HN.out, Nat.add_sub_cancel, X'.out]
        have HL1 := Lib.hid L1
        clear L1
        have R1 := Lib.hid ((R.out.set0 x' y').cut (m := m) (by omega))
        have hsz : ((w2.setCell ⟨g, 0, none⟩ (.int .i64 x')).setCell ⟨g, 1, none⟩ (.int .i64 y')).heap.size = w2.heap.size := by simp
        have T1 := Lib.hid (show w2.grownBy ((w2.setCell ⟨g, 0, none⟩ (.int .i64 x')).setCell ⟨g, 1, none⟩ (.int .i64 y')) (some g) from grown_set (p := ⟨g, 1, none⟩) (grown_set (p := ⟨g, 0, none⟩) (World.grownBy.refl w2 (some g)) (.inl rfl) _) (.inl rfl) _)
        have s2 := B2.size
        have hd0 := HD.out
        have hd1 := HD0.out
        cases d with
        | true =>
          go_wp2_with fail
          generalize ((w2.setCell ⟨g, 0, none⟩ (.int .i64 x')).setCell ⟨g, 1, none⟩ (.int .i64 y')) = wa at *
          refine (l2Down_any g m c1 0 _ _ (by omega) (R1.out.bl (by repeat' (first | exact Bl.refl _ | with_reducible assumption | with_reducible refine Bl.drew_ ?_ | with_reducible refine Bl.drewN_ ?_ _ | with_reducible refine Bl.alloc_ ?_ _ | with_reducible refine Bl.trans_ ?_ (by assumption) | with_reducible refine Bl.trans_ ?_ (And.left (by assumption))))) (by omega)).mono ?_
          rintro e w4 ⟨rfl, hR4, hG4⟩
          have R4 := Lib.hid hR4
          have G4 := Lib.hid hG4
          clear hR4 hG4
          have P4 := Lib.hid (show popL L = downI ((L.set 0 (x', y')).take m) 0 from by unfold popL; rw [HL1.out])
          have B4 := Lib.hid (show Bl w w4 from Bl.grown_ ((hbw1.out.trans_ B2).grown_ T1.out (fun i h => by injection h with h; omega) |> fun (h : Bl w wa) => (h.alloc_ _)) G4.out (fun i h => by injection h with h; omega))
          have c1' := G4.out.cell (a := ⟨w2.heap.size, 0, none⟩) (v := .int .i64 x) (by simp [go_sem, ← hsz]) (by simp; omega)
          have c2' := G4.out.cell (a := ⟨w2.heap.size, 1, none⟩) (v := .int .i64 y) (by simp [go_sem, ← hsz]) (by simp; omega)
          have hx4 := Lib.hid (show Bl (w.alloc (.cells #[.int .i64 0, .int .i64 0] 33)) w4 from Bl.grown_ ((HB1.out.trans_ B2).grown_ T1.out (fun i h => by injection h with h; simp; omega) |> fun (h : Bl _ wa) => (h.alloc_ _)) G4.out (fun i h => by injection h with h; simp; omega))
          obtain ⟨q0, q1⟩ := box2 hx4.out
          have z0 := ((bcell hx4.out).2 w.heap.size 0 (by simp)).trans (show _ = false from by simp [go_sem])
          have z1 := ((bcell hx4.out).2 w.heap.size 1 (by simp)).trans (show _ = false from by simp [go_sem])
          clear hsz hd0 hd1
          go_wp2_with fail
          go_region
          all_goals
            go_wp2
            refine bodyPost_ret (v := .tuple #[.slice (some ⟨g, 0, none⟩) m c1, .agg #[.int .i64 x, .int .i64 y], .bool true]) (by simp [results, Try.results22, go_sem, q0, q1]) rfl ⟨_, by rw [show popFirst L = atI L 0 from if_pos PB.out, X.out, PB.out], ?_, ?_⟩
            · rw [show popRest L = popL L from if_pos PB.out, P4.out]
              have h5 := R4.out.1
              have hl := R4.out.2
              unfold OwnI at h5 ⊢
              rw [← hl] at h5 ⊢
              refine Owns.bl (w := (w4.setCell ⟨w.heap.size, 0, none⟩ (.int .i64 x)).setCell ⟨w.heap.size, 1, none⟩ (.int .i64 y)) (Owns.setOther (Owns.setOther (Owns.at_base h5 (by omega)) ?_ _) ?_ _) ?_
              · intro g' e; have e' : g = g' := by simpa [Value.ownBlock] using e
                show g' ≠ w.heap.size; omega
              · intro g' e; have e' : g = g' := by simpa [Value.ownBlock] using e
                show g' ≠ w.heap.size; omega
              · exact (by repeat' (first | exact Bl.refl _ | with_reducible assumption | with_reducible refine Bl.drew_ ?_ | with_reducible refine Bl.drewN_ ?_ _ | with_reducible refine Bl.alloc_ ?_ _ | with_reducible refine Bl.trans_ ?_ (by assumption) | with_reducible refine Bl.trans_ ?_ (And.left (by assumption))))
            · exact (Bl.set_ (Bl.set_ B4.out (Nat.le_refl _) _) (Nat.le_refl _) _).trans_ (by repeat' (first | exact Bl.refl _ | with_reducible assumption | with_reducible refine Bl.drew_ ?_ | with_reducible refine Bl.drewN_ ?_ _ | with_reducible refine Bl.alloc_ ?_ _ | with_reducible refine Bl.trans_ ?_ (by assumption) | with_reducible refine Bl.trans_ ?_ (And.left (by assumption))))
        | false =>
          have hm0 : m = 0 := by have := HD0.out; simpa using this
          subst hm0
          obtain ⟨rfl, rfl⟩ : x = x' ∧ y = y' := by have h := X.out.symm.trans X'.out; simpa using h
          go_wp2_with fail
          generalize ((w2.setCell ⟨g, 0, none⟩ (.int .i64 x)).setCell ⟨g, 1, none⟩ (.int .i64 y)) = wa at *
          have P4 := Lib.hid (show popL L = (L.set 0 (x, y)).take 0 from by unfold popL; rw [← HL1.out, downI_stop (pickI_leaf (by simp))])
          have R4 := Lib.hid (R1.out.bl ((Bl.refl wa).alloc_ (.cells #[.int .i64 x, .int .i64 y] 33)))
          have c1' : (wa.alloc (.cells #[.int .i64 x, .int .i64 y] 33)).cell? ⟨w2.heap.size, 0, none⟩ = some (.int .i64 x) := by simp [go_sem, ← hsz]
          have c2' : (wa.alloc (.cells #[.int .i64 x, .int .i64 y] 33)).cell? ⟨w2.heap.size, 1, none⟩ = some (.int .i64 y) := by simp [go_sem, ← hsz]
          have B4 := Lib.hid (show Bl w (wa.alloc (.cells #[.int .i64 x, .int .i64 y] 33)) from (hbw1.out.trans_ B2).grown_ T1.out (fun i h => by injection h with h; omega) |> fun (h : Bl w wa) => (h.alloc_ _))
          have hx4 := Lib.hid (show Bl (w.alloc (.cells #[.int .i64 0, .int .i64 0] 33)) (wa.alloc (.cells #[.int .i64 x, .int .i64 y] 33)) from (HB1.out.trans_ B2).grown_ T1.out (fun i h => by injection h with h; simp; omega) |> fun (h : Bl _ wa) => (h.alloc_ _))
          generalize wa.alloc (.cells #[.int .i64 x, .int .i64 y] 33) = w4 at *
          obtain ⟨q0, q1⟩ := box2 hx4.out
          have z0 := ((bcell hx4.out).2 w.heap.size 0 (by simp)).trans (show _ = false from by simp [go_sem])
          have z1 := ((bcell hx4.out).2 w.heap.size 1 (by simp)).trans (show _ = false from by simp [go_sem])
          clear hsz hd0 hd1
          go_wp2_with fail
          go_region
          all_goals
            go_wp2
            refine bodyPost_ret (v := .tuple #[.slice (some ⟨g, 0, none⟩) 0 c1, .agg #[.int .i64 x, .int .i64 y], .bool true]) (by simp [results, Try.results22, go_sem, q0, q1]) rfl ⟨_, by rw [show popFirst L = atI L 0 from if_pos PB.out, X.out, PB.out], ?_, ?_⟩
            · rw [show popRest L = popL L from if_pos PB.out, P4.out]
              have h5 := R4.out.1
              have hl := R4.out.2
              unfold OwnI at h5 ⊢
              rw [← hl] at h5 ⊢
              refine Owns.bl (w := (w4.setCell ⟨w.heap.size, 0, none⟩ (.int .i64 x)).setCell ⟨w.heap.size, 1, none⟩ (.int .i64 y)) (Owns.setOther (Owns.setOther (Owns.at_base h5 (by omega)) ?_ _) ?_ _) ?_
              · intro g' e; have e' : g = g' := by simpa [Value.ownBlock] using e
                show g' ≠ w.heap.size; omega
              · intro g' e; have e' : g = g' := by simpa [Value.ownBlock] using e
                show g' ≠ w.heap.size; omega
              · exact (by repeat' (first | exact Bl.refl _ | with_reducible assumption | with_reducible refine Bl.drew_ ?_ | with_reducible refine Bl.drewN_ ?_ _ | with_reducible refine Bl.alloc_ ?_ _ | with_reducible refine Bl.trans_ ?_ (by assumption) | with_reducible refine Bl.trans_ ?_ (And.left (by assumption))))
            · exact (Bl.set_ (Bl.set_ B4.out (Nat.le_refl _) _) (Nat.le_refl _) _).trans_ (by repeat' (first | exact Bl.refl _ | with_reducible assumption | with_reducible refine Bl.drew_ ?_ | with_reducible refine Bl.drewN_ ?_ _ | with_reducible refine Bl.alloc_ ?_ _ | with_reducible refine Bl.trans_ ?_ (by assumption) | with_reducible refine Bl.trans_ ?_ (And.left (by assumption))))
      exact key _ rfl

end Go.Proofs.Ytnpngkppbmndiab
