/-
  What is proved here: lists of bans come in, are copied and held against each other as lists of arcs are. No conditions beyond those that each theorem states.
-/
import Derived.Test.YtelgjfflhcmljaaB0
import Derived.Test.YtelgjfflhcmljaaA4
set_option linter.unusedSimpArgs false
set_option linter.unusedVariables false
namespace Go.Proofs.Ytelgjfflhcmljaa
open Go.ChangeShapes Go.WideShapes Go.ChangeAt Go.RowKit Go.Deep Go.Joins

set_option maxHeartbeats 400000 in
theorem szBanS_any (A : Option Addr) (n c : Nat) (l : Int) (w : World) (hn : n ≤ 9223372036854775807) (hl0 : 0 ≤ l) (hl1 : l ≤ 1048576) :
    Calls Try.prog 28 #[.slice A n c, .int .i64 l] w fun e w' => e = .returned (.int .i64 (if l - n < 0 then -1 else l - n)) ∧ w = w' := by
  by_cases h1 : l - n < 0
  · go_enter Try.func28, Try.ntmps28
    go_wp2
    go_ret
    exact ⟨ret_int (by first | rfl | rw [if_pos h1]), rfl⟩
  · go_enter Try.func28, Try.ntmps28
    go_wp2
    go_ret
    exact ⟨ret_int (by first | rfl | rw [if_neg (by omega)]), rfl⟩

set_option maxHeartbeats 400000 in
theorem toBan_any (a b x : Int) (w : World) :
    Calls Try.prog 93 #[.agg #[.int .i64 a, .int .i64 b, .int .i64 x]] w fun e w' => e = .returned (.agg #[.int .i64 a, .int .i64 b, .int .i64 x]) ∧ Bl w w' := by
  go_enter Try.func93, Try.ntmps93
  go_wp2
  exact bodyPost_ret (v := .agg #[.int .i64 a, .int .i64 b, .int .i64 x]) (by simp [results, Try.results93, go_sem]) rfl ⟨rfl, (by repeat' (first | exact Bl.refl _ | with_reducible assumption | with_reducible refine Bl.drew_ ?_ | with_reducible refine Bl.drewN_ ?_ _ | with_reducible refine Bl.alloc_ ?_ _ | with_reducible refine Bl.trans_ ?_ (by assumption) | with_reducible refine Bl.trans_ ?_ (And.left (by assumption))))⟩

set_option maxHeartbeats 400000 in
theorem eqBan_yes (a b x : Int) (w : World) :
    Calls Try.prog 95 #[.agg #[.int .i64 a, .int .i64 b, .int .i64 x], .agg #[.int .i64 a, .int .i64 b, .int .i64 x]] w fun e w' => e = .returned (.bool true) ∧ Bl w w' := by
  have h1 : (a != a) = false := by simp
  have h2 : (b != b) = false := by simp
  have h3 : (x != x) = false := by simp
  go_enter Try.func95, Try.ntmps95
  go_wp2
  go_ret
  exact ⟨rfl, (by repeat' (first | exact Bl.refl _ | with_reducible assumption | with_reducible refine Bl.drew_ ?_ | with_reducible refine Bl.drewN_ ?_ _ | with_reducible refine Bl.alloc_ ?_ _ | with_reducible refine Bl.trans_ ?_ (by assumption) | with_reducible refine Bl.trans_ ?_ (And.left (by assumption))))⟩

set_option maxHeartbeats 400000 in
theorem eqBanS_yes (A1 A2 : Option Addr) (c1 c2 : Nat) (L : List Arc3) (n : Nat) (hn : n = L.length) (w : World) (hm : n ≤ 9223372036854775807) (H1 : ArcsAt w w.heap.size A1 L) (H2 : ArcsAt w w.heap.size A2 L) :
    Calls Try.prog 32 #[.slice A1 n c1, .slice A2 n c2] w fun e w' => e = .returned (.bool true) ∧ Bl w w' := by
  have HN := Lib.hid hn
  clear hn
  have K1 := Lib.hid H1
  have K2 := Lib.hid H2
  clear H1 H2
  have hnn : ((n : Int) != (n : Int)) = false := by simp
  go_enter Try.func32, Try.ntmps32
  go_wp2
  go_loopw [5] (fun i wr => ∃ k : Nat, k ≤ n ∧ i = .int .i64 k ∧ Bl w wr) (fun i _ => n - (intOf i).toNat)
  case atStart => exact ⟨0, by omega, rfl, Bl.refl _⟩
  case round =>
    obtain ⟨k, hk, rfl, hbl⟩ := hrel
    by_cases hlt : k < n
    · have hkl : k < L.length := by have := HN.out; omega
      obtain ⟨g1, o1, rfl, hg1, hc1⟩ := K1.out (by omega)
      obtain ⟨g2, o2, rfl, hg2, hc2⟩ := K2.out (by omega)
      obtain ⟨p1, p2, p3⟩ := hc1 k hkl
      obtain ⟨q1, q2, q3⟩ := hc2 k hkl
      generalize L[k].1 = x at p1 q1
      generalize L[k].2.1 = y at p2 q2
      generalize L[k].2.2 = z at p3 q3
      clear hc1 hc2 hkl
      have HS : ∀ wx, Bl w wx → Bl w wx ∧ wx.cell? ⟨g1, o1 + k * 3, none⟩ = some (.int .i64 x) ∧ wx.cell? ⟨g1, o1 + k * 3 + 1, none⟩ = some (.int .i64 y) ∧ wx.cell? ⟨g1, o1 + k * 3 + 2, none⟩ = some (.int .i64 z) ∧
          wx.cell? ⟨g2, o2 + k * 3, none⟩ = some (.int .i64 x) ∧ wx.cell? ⟨g2, o2 + k * 3 + 1, none⟩ = some (.int .i64 y) ∧ wx.cell? ⟨g2, o2 + k * 3 + 2, none⟩ = some (.int .i64 z) := fun wx hb => by
        obtain ⟨hc, _⟩ := bcell hb
        exact ⟨hb, (hc _ _ hg1).trans p1, (hc _ _ hg1).trans p2, (hc _ _ hg1).trans p3, (hc _ _ hg2).trans q1, (hc _ _ hg2).trans q2, (hc _ _ hg2).trans q3⟩
      have HSH := Lib.hid HS
      clear HS p1 p2 p3 q1 q2 q3 hg1 hg2
      go_wp2
      go_region_held3 (fun wx => Bl w wx ∧ wx.cell? ⟨g1, o1 + k * 3, none⟩ = some (.int .i64 x) ∧ wx.cell? ⟨g1, o1 + k * 3 + 1, none⟩ = some (.int .i64 y) ∧ wx.cell? ⟨g1, o1 + k * 3 + 2, none⟩ = some (.int .i64 z) ∧
          wx.cell? ⟨g2, o2 + k * 3, none⟩ = some (.int .i64 x) ∧ wx.cell? ⟨g2, o2 + k * 3 + 1, none⟩ = some (.int .i64 y) ∧ wx.cell? ⟨g2, o2 + k * 3 + 2, none⟩ = some (.int .i64 z)) (exact HSH.out _ (by repeat' (first | exact Bl.refl _ | with_reducible assumption | with_reducible refine Bl.drew_ ?_ | with_reducible refine Bl.drewN_ ?_ _ | with_reducible refine Bl.alloc_ ?_ _ | with_reducible refine Bl.trans_ ?_ (by assumption) | with_reducible refine Bl.trans_ ?_ (And.left (by assumption))))) (first | (go_at_call 95; refine (eqBan_yes _ _ _ _).mono ?_; rintro e w' ⟨rfl, hb⟩; obtain ⟨hc, hf⟩ := bcell hb))
      go_wp2
      go_roundw
      case rel => exact ⟨k + 1, by omega, by go_num, (by repeat' (first | exact Bl.refl _ | with_reducible assumption | with_reducible refine Bl.drew_ ?_ | with_reducible refine Bl.drewN_ ?_ _ | with_reducible refine Bl.alloc_ ?_ _ | with_reducible refine Bl.trans_ ?_ (by assumption) | with_reducible refine Bl.trans_ ?_ (And.left (by assumption))))⟩
      case measure => simp [intOf]; omega
    · go_wp2
      go_ret
      exact ⟨rfl, hbl⟩

theorem infoBan : (Try.prog.info? 105).map (fun i => (i.zero, i.size, i.bytes)) = some (some (.agg #[.int .i64 0, .int .i64 0, .int .i64 0]), 3, 24) := by kernel_rfl

theorem make_bans (n : Nat) (hn : n ≤ 1048576) (w : World) : (Instr.makeSlice 41 (.int .i64 (n : Int)) (.int .i64 (n : Int))).run Try.prog w = .ok (.slice (some ⟨w.heap.size, 0, none⟩) n n) (w.alloc (.cells (mk3 n) 105)) := by
  obtain ⟨i0, hi, hz0, hz1, hz2⟩ := info_parts infoBan
  have h := run_make_rowN (P := Try.prog) 41 105 i0 _ Try.underlying41 hi hz0 .i64 .i64 n n (Nat.le_refl _) (by rw [hz2]; omega) (by omega) w
  rw [hz1] at h
  exact h

set_option maxHeartbeats 400000 in
theorem toBanS_any (A : Option Addr) (n c : Nat) (L : List Arc3) (hn : n = L.length) (w : World) (hm : n ≤ 1048576) (H1 : ArcsAt w w.heap.size A L) :
    Calls Try.prog 30 #[.slice A n c] w fun e w' => e = .returned (.slice (some ⟨w.heap.size, 0, none⟩) n n) ∧ ArcsAt w' w'.heap.size (some ⟨w.heap.size, 0, none⟩) L ∧ Bl w w' := by
  have K1 := Lib.hid H1
  have HN := Lib.hid hn
  clear H1 hn
  have hmk := make_bans n hm
  go_enter Try.func30, Try.ntmps30
  go_wp2
  clear hmk
  go_loopw [4] (fun i wr => ∃ k : Nat, k ≤ n ∧ i = .int .i64 k ∧ Bl w wr ∧ ∃ f, wr.rowIs w.heap.size 105 (n * 3) f ∧ ∀ j (h : j < k) (h' : j < L.length), f (j * 3) = .int .i64 L[j].1 ∧ f (j * 3 + 1) = .int .i64 L[j].2.1 ∧ f (j * 3 + 2) = .int .i64 L[j].2.2) (fun i _ => n - (intOf i).toNat)
  case atStart => exact ⟨0, by omega, rfl, (by repeat' (first | exact Bl.refl _ | with_reducible assumption | with_reducible refine Bl.drew_ ?_ | with_reducible refine Bl.drewN_ ?_ _ | with_reducible refine Bl.alloc_ ?_ _ | with_reducible refine Bl.trans_ ?_ (by assumption) | with_reducible refine Bl.trans_ ?_ (And.left (by assumption)))), _, mk3_row _ _ _, fun j h => absurd h (by omega)⟩
  case round =>
    obtain ⟨k, hk, rfl, hbl, f, hrow, hf⟩ := hrel
    by_cases hlt : k < n
    · have hkl : k < L.length := by have := HN.out; omega
      obtain ⟨g1, o1, rfl, hg1, hc1⟩ := K1.out (by omega)
      obtain ⟨p1, p2, p3⟩ := hc1 k hkl
      rw [← (bcell hbl).1 _ _ hg1] at p1 p2 p3
      have F := Lib.hid hf
      have R := Lib.hid hrow
      clear hf hrow hc1
      go_wp2_with fail
      refine (toBan_any _ _ _ _).mono ?_
      rintro e w1 ⟨rfl, hb⟩
      have R1 := Lib.hid (row_bl R.out hb)
      have z1 := R1.out.cell (i := k * 3) (by omega)
      have z2 := R1.out.cell (i := k * 3 + 1) (by omega)
      have z3 := R1.out.cell (i := k * 3 + 2) (by omega)
      have y1 := R1.out.frozen (k * 3)
      have y2 := R1.out.frozen (k * 3 + 1)
      have y3 := R1.out.frozen (k * 3 + 2)
      go_wp2
      go_roundw
      case rel =>
        refine ⟨k + 1, by omega, by go_num, ((Bl.set_ (Bl.set_ (Bl.set_ (hbl.trans_ hb) (Nat.le_refl _) _) (Nat.le_refl _) _) (Nat.le_refl _) _)), _, (((R1.out.set (k * 3) _).set (k * 3 + 1) _).set (k * 3 + 2) _), fun j hj hj' => ?_⟩
        rcases Nat.lt_or_ge j k with h | h
        · rw [if_neg (by omega), if_neg (by omega), if_neg (by omega), if_neg (by omega), if_neg (by omega), if_neg (by omega), if_neg (by omega), if_neg (by omega), if_neg (by omega)]
          exact F.out j h hj'
        · have e : j = k := by omega
          subst e
          exact ⟨by rw [if_neg (by omega), if_neg (by omega), if_pos rfl], by rw [if_neg (by omega), if_pos rfl], by rw [if_pos rfl]⟩
      case measure => simp [intOf]; omega
    · go_wp2
      go_ret
      have e : k = n := by omega
      subst e
      refine ⟨rfl, fun h0 => ⟨w.heap.size, 0, rfl, hrow.lt, fun j hj => ?_⟩, hbl⟩
      have hjk : j < k := by have := HN.out; omega
      obtain ⟨e1, e2, e3⟩ := hf j hjk hj
      rw [← e1, ← e2, ← e3]
      exact ⟨by rw [Nat.zero_add]; exact hrow.cell (by omega), by rw [Nat.zero_add]; exact hrow.cell (by omega), by rw [Nat.zero_add]; exact hrow.cell (by omega)⟩

set_option maxRecDepth 100000 in
theorem open_bans {H : Type} {enc : TypeId × Value → H} {W : World} {r : Reach} {b0 : Nat} {v : Value} {d : DataW H} {p : List MemPlace} (hv : Value.okWide Try.prog W r b0 38 v)
    (h : DataW.Trod enc Try.prog W 0 (fun _ => true) true 38 v d p) :
    ∃ (A : Option Addr) (n c : Nat) (L : List Arc3), v = .slice A n c ∧ n = L.length ∧ n ≤ 9223372036854775807 ∧ ArcsAt W W.heap.size A L := by
  obtain ⟨a0, len0, cap0, rfl⟩ := okWide_slice Try.underlying38 hv
  obtain ⟨m0, ht1⟩ := h
  rcases open_slice_fields Try.underlying38 Try.underlying108 (by kernel_rfl) (by kernel_rfl) ht1 with ⟨hcs, _⟩ | ⟨a, len, cap, m', D, Pl, hcs, _, hl, hcap, hmm, _, hi⟩
  · have hcs' : [Value.slice a0 len0 cap0] = [.slice none 0 0] := hcs
    simp only [List.cons.injEq, and_true] at hcs'
    rw [hcs']
    exact ⟨none, 0, 0, [], rfl, rfl, by omega, fun h => absurd h (by simp)⟩
  · have hcs' : [Value.slice a0 len0 cap0] = [.slice (some a) len cap] := hcs
    simp only [List.cons.injEq, and_true] at hcs'
    rw [hcs']
    have hm' : len ≤ m' := by rw [hmm]; simp; omega
    have hF : ∀ i, ∃ t : Arc3, i < len → W.cell? (a.add (i * 3)) = some (.int .i64 t.1) ∧ W.cell? (a.add (i * 3 + 1)) = some (.int .i64 t.2.1) ∧ W.cell? (a.add (i * 3 + 2)) = some (.int .i64 t.2.2) := by
      intro i
      by_cases hil : i < len
      · obtain ⟨ys, n', _, _, _, hf⟩ := hi i (by omega)
        obtain ⟨v0, z0, q0, _, t0⟩ := hf 0 _ rfl
        obtain ⟨v1, z1, q1, _, t1⟩ := hf 1 _ rfl
        obtain ⟨v2, z2, q2, _, t2⟩ := hf 2 _ rfl
        obtain ⟨x0, e0, _, _⟩ := DataW.trod_int Try.underlying2 t0
        obtain ⟨x1, e1, _, _⟩ := DataW.trod_int Try.underlying2 t1
        obtain ⟨x2, e2, _, _⟩ := DataW.trod_int Try.underlying2 t2
        simp only [List.cons.injEq, and_true] at e0 e1 e2
        subst e0; subst e1; subst e2
        exact ⟨(x0, x1, x2), fun _ => ⟨q0, q1, q2⟩⟩
      · exact ⟨(0, 0, 0), fun h => absurd h hil⟩
    obtain ⟨F, hF⟩ := Classical.axiomOfChoice hF
    refine ⟨some a, len, cap, (List.range len).map F, rfl, by simp, ?_, fun h0 => ?_⟩
    · unfold maxLen at hcap; omega
    · have h0' : 0 < len := by simpa using h0
      obtain ⟨b, off, spot⟩ := a
      have hc0 := (hF 0 h0').1
      have hspot : spot = none := by simpa [Addr.add] using World.cell?_spot hc0
      subst hspot
      refine ⟨b, off, rfl, ?_, fun k hk => ?_⟩
      · have := World.block_lt_of_cell? _ _ hc0
        simpa [Addr.add] using this
      · have hk' : k < len := by simpa using hk
        obtain ⟨a1, a2, a3⟩ := hF k hk'
        rw [Go.WideShapes.add_plain] at a1 a2 a3
        simp only [List.getElem_map, List.getElem_range]
        exact ⟨a1, by rw [Nat.add_assoc]; exact a2, by rw [Nat.add_assoc]; exact a3⟩


end Go.Proofs.Ytelgjfflhcmljaa
