/-
  What is proved here: the small functions of the code that ask for nodes, for the arcs from a node and for the weight of an arc. No conditions beyond those that each theorem states.
-/
import Derived.Test.YtffjpfanmnkmgaaD3
import Derived.Test.YtffjpfanmnkmgaaE1
import Derived.Test.YtffjpfanmnkmgaaW4
import Derived.Test.YtffjpfanmnkmgaaPR
set_option linter.unusedSimpArgs false
set_option linter.unusedVariables false
namespace Go.Proofs.Ytffjpfanmnkmgaa
open Go.RowKit

/-- Is the graph right, and are all of these nodes of it? -/
def hasB (N : Int) (L : List Arc3) (V : List Int) : Bool := okB N L && V.all fun v => decide (0 ≤ v ∧ v < N)
set_option maxHeartbeats 1000000 in
theorem hasNodes_any (N : Int) (A : Option Addr) (n c : Nat) (L : List Arc3) (hn : n = L.length) (A2 : Option Addr) (k c2 : Nat) (V : List Int) (hk : k = V.length) (w : World) (hm : n ≤ 9223372036854775807) (hkm : k ≤ 1048576) (H1 : ArcsAt w w.heap.size A L) (H2 : CellsAt w w.heap.size A2 (csI V)) :
    Calls Try.prog 72 #[.agg #[.int .i64 N, .slice A n c], .slice A2 k c2] w fun e w' => e = .returned (.bool (hasB N L V)) ∧ Bl w w' := by
  have K1 := Lib.hid H1
  have K2 := Lib.hid H2
  have HN := Lib.hid hn
  have HK := Lib.hid hk
  clear H1 H2 hn hk
  by_cases ho : okB N L = true
  · have HO := Lib.hid ho
    clear ho
    go_enter Try.func72, Try.ntmps72
    go_wp2_with fail
    refine (implOk_any N A n c L HN.out _ (by omega) (K1.out.bl (by repeat' (first | exact Bl.refl _ | with_reducible assumption | with_reducible refine Bl.drew_ ?_ | with_reducible refine Bl.drewN_ ?_ _ | with_reducible refine Bl.alloc_ ?_ _ | with_reducible refine Bl.trans_ ?_ (by assumption) | with_reducible refine Bl.trans_ ?_ (And.left (by assumption)))))).mono ?_
    rintro e w1 ⟨rfl, hb1⟩
    rw [HO.out]
    obtain ⟨q0, q1⟩ := box2 hb1
    go_wp2_with fail
    clear q0 q1
    go_loopw [12] (fun i wr => ∃ j : Nat, j ≤ k ∧ i = .int .i64 j ∧ Bl (w.alloc (.cells #[.int .i64 N, .slice A n c] 38)) wr ∧ ∀ t (h : t < V.length), t < j → 0 ≤ V[t] ∧ V[t] < N) (fun i _ => k - (intOf i).toNat)
    case atStart => exact ⟨0, by omega, rfl, hb1, fun t h h' => absurd h' (by omega)⟩
    case round =>
      obtain ⟨j, hj, rfl, hbl, hno⟩ := hrel
      have NO := Lib.hid hno
      clear hno
      obtain ⟨q0, q1⟩ := box2 hbl
      have hbw : Bl w wr := (Bl.alloc_ (Bl.refl w) _).trans_ hbl
      by_cases hlt : j < k
      · have hjl : j < V.length := by have := HK.out; omega
        obtain ⟨g2, o2, rfl, hg2, hc2⟩ := K2.out (by rw [csI_len]; omega)
        have p1 := hc2 j (by rw [csI_len]; exact hjl)
        rw [csI_at] at p1
        clear hc2
        rw [← (bcell hbw).1 _ _ hg2] at p1
        generalize hx : V[j] = x at p1
        have HX := Lib.hid hx
        clear hx
        by_cases hin : 0 ≤ x ∧ x < N
        · have hd : decide (0 ≤ x ∧ x < N) = true := by simpa using hin
          have HIN := Lib.hid hin
          clear hin
          go_wp2_with fail
          refine (isNode_any N x _ _).mono ?_
          rintro e w3 ⟨rfl, hb3⟩
          rw [hd]
          clear q0 q1
          go_wp2
          go_roundw
          case rel =>
            refine ⟨j + 1, by omega, by go_num, (by repeat' (first | exact Bl.refl _ | with_reducible assumption | with_reducible refine Bl.drew_ ?_ | with_reducible refine Bl.drewN_ ?_ _ | with_reducible refine Bl.alloc_ ?_ _ | with_reducible refine Bl.trans_ ?_ (by assumption) | with_reducible refine Bl.trans_ ?_ (And.left (by assumption)))), fun t h ht => ?_⟩
            rcases Nat.lt_or_ge t j with h' | h'
            · exact NO.out t h h'
            · obtain rfl : t = j := by omega
              rw [HX.out]
              exact HIN.out
          case measure => simp [intOf]; omega
        · have hd : decide (0 ≤ x ∧ x < N) = false := by simpa using hin
          have HIN := Lib.hid hin
          clear hin
          go_wp2_with fail
          refine (isNode_any N x _ _).mono ?_
          rintro e w3 ⟨rfl, hb3⟩
          rw [hd]
          clear q0 q1
          go_wp2
          go_ret
          refine ⟨ret_bool ?_, (by repeat' (first | exact Bl.refl _ | with_reducible assumption | with_reducible refine Bl.drew_ ?_ | with_reducible refine Bl.drewN_ ?_ _ | with_reducible refine Bl.alloc_ ?_ _ | with_reducible refine Bl.trans_ ?_ (by assumption) | with_reducible refine Bl.trans_ ?_ (And.left (by assumption))))⟩
          unfold hasB
          rw [HO.out, Bool.true_and]
          symm
          rw [List.all_eq_false]
          exact ⟨V[j], List.getElem_mem hjl, by rw [HX.out]; simpa using HIN.out⟩
      · go_wp2
        go_ret
        refine ⟨ret_bool ?_, (by repeat' (first | exact Bl.refl _ | with_reducible assumption | with_reducible refine Bl.drew_ ?_ | with_reducible refine Bl.drewN_ ?_ _ | with_reducible refine Bl.alloc_ ?_ _ | with_reducible refine Bl.trans_ ?_ (by assumption) | with_reducible refine Bl.trans_ ?_ (And.left (by assumption))))⟩
        unfold hasB
        rw [HO.out, Bool.true_and]
        symm
        rw [List.all_eq_true]
        intro v hv
        obtain ⟨t, ht, rfl⟩ := List.mem_iff_getElem.1 hv
        simpa using NO.out t ht (by have := HK.out; omega)
  · have ho' : okB N L = false := by simpa using ho
    have HO := Lib.hid ho'
    clear ho ho'
    go_enter Try.func72, Try.ntmps72
    go_wp2_with fail
    refine (implOk_any N A n c L HN.out _ (by omega) (K1.out.bl (by repeat' (first | exact Bl.refl _ | with_reducible assumption | with_reducible refine Bl.drew_ ?_ | with_reducible refine Bl.drewN_ ?_ _ | with_reducible refine Bl.alloc_ ?_ _ | with_reducible refine Bl.trans_ ?_ (by assumption) | with_reducible refine Bl.trans_ ?_ (And.left (by assumption)))))).mono ?_
    rintro e w1 ⟨rfl, hb1⟩
    rw [HO.out]
    go_wp2
    go_ret
    exact ⟨ret_bool (by unfold hasB; rw [HO.out, Bool.false_and]), (by repeat' (first | exact Bl.refl _ | with_reducible assumption | with_reducible refine Bl.drew_ ?_ | with_reducible refine Bl.drewN_ ?_ _ | with_reducible refine Bl.alloc_ ?_ _ | with_reducible refine Bl.trans_ ?_ (by assumption) | with_reducible refine Bl.trans_ ?_ (And.left (by assumption))))⟩

/-- hasNodes with one node, as it is called. -/
def has1 (N : Int) (L : List Arc3) (v : Int) : Bool := okB N L && decide (0 ≤ v ∧ v < N)
def has2 (N : Int) (L : List Arc3) (u v : Int) : Bool := okB N L && decide ((0 ≤ u ∧ u < N) ∧ (0 ≤ v ∧ v < N))
theorem hasB_1 (N : Int) (L : List Arc3) (v : Int) : hasB N L [v] = has1 N L v := by simp [hasB, has1]
theorem hasB_2 (N : Int) (L : List Arc3) (u v : Int) : hasB N L [u, v] = has2 N L u v := by
  simp only [hasB, has2, List.all_cons, List.all_nil, Bool.and_true]
  congr 1
  rw [Bool.eq_iff_iff]
  simp
theorem hasNodes_1 (N v : Int) (A : Option Addr) (n c : Nat) (L : List Arc3) (hn : n = L.length) (g c2 : Nat) (w : World) (hm : n ≤ 9223372036854775807) (H1 : ArcsAt w w.heap.size A L) (hg : g < w.heap.size) (h0 : w.cell? ⟨g, 0, none⟩ = some (.int .i64 v)) :
    Calls Try.prog 72 #[.agg #[.int .i64 N, .slice A n c], .slice (some ⟨g, 0, none⟩) 1 c2] w fun e w' => e = .returned (.bool (has1 N L v)) ∧ Bl w w' := by
  rw [← hasB_1]
  refine hasNodes_any N A n c L hn _ 1 c2 [v] rfl w hm (by omega) H1 (fun _ => ⟨g, 0, rfl, hg, fun j hj => ?_⟩)
  obtain rfl : j = 0 := by simpa [csI] using hj
  simpa [csI] using h0
theorem hasNodes_2 (N u v : Int) (A : Option Addr) (n c : Nat) (L : List Arc3) (hn : n = L.length) (g c2 : Nat) (w : World) (hm : n ≤ 9223372036854775807) (H1 : ArcsAt w w.heap.size A L) (hg : g < w.heap.size) (h0 : w.cell? ⟨g, 0, none⟩ = some (.int .i64 u)) (h1 : w.cell? ⟨g, 1, none⟩ = some (.int .i64 v)) :
    Calls Try.prog 72 #[.agg #[.int .i64 N, .slice A n c], .slice (some ⟨g, 0, none⟩) 2 c2] w fun e w' => e = .returned (.bool (has2 N L u v)) ∧ Bl w w' := by
  rw [← hasB_2]
  refine hasNodes_any N A n c L hn _ 2 c2 [u, v] rfl w hm (by omega) H1 (fun _ => ⟨g, 0, rfl, hg, fun j hj => ?_⟩)
  have hj' : j < 2 := by simpa [csI] using hj
  match j, hj' with
  | 0, _ => simpa [csI] using h0
  | 1, _ => simpa [csI] using h1

set_option maxHeartbeats 400000 in
theorem arcWeight_any (N u v : Int) (A : Option Addr) (n c : Nat) (L : List Arc3) (hn : n = L.length) (w : World) (hm : n ≤ 1048576) (hs : SortedA L) (H1 : ArcsAt w w.heap.size A L) :
    Calls Try.prog 84 #[.agg #[.int .i64 N, .slice A n c], .int .i64 u, .int .i64 v] w fun e w' => e = .returned (.int .i64 (wtL u v L)) ∧ Bl w w' := by
  have K1 := Lib.hid H1
  have HN := Lib.hid hn
  have HS := Lib.hid hs
  clear H1 hn hs
  go_enter Try.func84, Try.ntmps84
  go_wp2_with fail
  refine (placeOf_any N u v A n c L HN.out _ hm HS.out (K1.out.bl (by repeat' (first | exact Bl.refl _ | with_reducible assumption | with_reducible refine Bl.drew_ ?_ | with_reducible refine Bl.drewN_ ?_ _ | with_reducible refine Bl.alloc_ ?_ _ | with_reducible refine Bl.trans_ ?_ (by assumption) | with_reducible refine Bl.trans_ ?_ (And.left (by assumption)))))).mono ?_
  rintro e w2 ⟨p, f, hp, rfl, hb2⟩
  have HP := Lib.hid (bs_wt HS.out hp)
  clear hp
  obtain ⟨q0, q1⟩ := box2 hb2
  cases f with
  | false =>
    have HP0 := Lib.hid (HP.out.2 rfl)
    clear HP
    go_wp2
    go_ret
    exact ⟨ret_int HP0.out.symm, (by repeat' (first | exact Bl.refl _ | with_reducible assumption | with_reducible refine Bl.drew_ ?_ | with_reducible refine Bl.drewN_ ?_ _ | with_reducible refine Bl.alloc_ ?_ _ | with_reducible refine Bl.trans_ ?_ (by assumption) | with_reducible refine Bl.trans_ ?_ (And.left (by assumption))))⟩
  | true =>
    obtain ⟨hpl, hwt⟩ := HP.out.1 rfl
    have HWT := Lib.hid hwt
    clear hwt HP
    have hpn : p < n := by have := HN.out; omega
    obtain ⟨g1, o1, rfl, hg1, hc1⟩ := K1.out (by omega)
    obtain ⟨p1, p2, p3⟩ := hc1 p hpl
    clear hc1
    have hbw : Bl w w2 := (Bl.alloc_ (Bl.refl w) _).trans_ hb2
    rw [← (bcell hbw).1 _ _ hg1] at p1 p2 p3
    generalize hz : L[p].2.2 = z at p3
    have HZ := Lib.hid hz
    clear hz p1 p2
    go_wp2
    go_ret
    exact ⟨ret_int (by rw [HWT.out, HZ.out]), hbw⟩

-- (implWeight_any left out)

theorem from_cut {L : List Arc3} {v : Int} {p q : Nat} {f f' : Bool} (ho : ∀ a ∈ L, 0 ≤ a.2.1) (h : BsAt L v 0 p f) (h' : BsAt L (v + 1) 0 q f') : p ≤ q ∧ q ≤ L.length ∧ (L.take q).drop p = fromL v L := by
  obtain ⟨hp, hlo, hhi, -⟩ := h
  obtain ⟨hq, klo, khi, -⟩ := h'
  have hpq : p ≤ q := by
    rcases Nat.lt_or_ge q p with h | h
    · have h1 := hlo q (by omega) h
      have h2 := khi q (by omega) (Nat.le_refl _)
      simp only [aheadB, decide_eq_true_eq, decide_eq_false_iff_not] at h1 h2
      omega
    · exact h
  refine ⟨hpq, hq, ?_⟩
  have e : L = L.take p ++ ((L.take q).drop p ++ L.drop q) := by
    have h1 : (L.take q).take p ++ (L.take q).drop p = L.take q := List.take_append_drop _ _
    rw [List.take_take, Nat.min_eq_left hpq] at h1
    rw [← List.append_assoc, h1, List.take_append_drop]
  have e1 : (L.take p).filter (fun a => a.1 == v) = [] := by
    rw [List.filter_eq_nil_iff]
    intro a ha
    obtain ⟨k, hk, rfl⟩ := List.mem_iff_getElem.1 ha
    rw [List.length_take] at hk
    rw [List.getElem_take]
    have h1 := hlo k (by omega) (by omega)
    have h2 := ho L[k] (List.getElem_mem _)
    simp only [aheadB, decide_eq_true_eq] at h1
    simp
    omega
  have e2 : (L.drop q).filter (fun a => a.1 == v) = [] := by
    rw [List.filter_eq_nil_iff]
    intro a ha
    obtain ⟨k, hk, rfl⟩ := List.mem_iff_getElem.1 ha
    rw [List.length_drop] at hk
    rw [List.getElem_drop]
    have h1 := khi (q + k) (by omega) (by omega)
    have h2 := ho L[q + k] (List.getElem_mem _)
    simp only [aheadB, decide_eq_false_iff_not] at h1
    simp
    omega
  have e3 : ((L.take q).drop p).filter (fun a => a.1 == v) = (L.take q).drop p := by
    rw [List.filter_eq_self]
    intro a ha
    obtain ⟨k, hk, rfl⟩ := List.mem_iff_getElem.1 ha
    rw [List.length_drop, List.length_take] at hk
    rw [List.getElem_drop, List.getElem_take]
    have h1 := hhi (p + k) (by omega) (by omega)
    have h2 := klo (p + k) (by omega) (by omega)
    have h3 := ho L[p + k] (List.getElem_mem _)
    simp only [aheadB, decide_eq_false_iff_not, decide_eq_true_eq] at h1 h2
    simp
    omega
  unfold fromL
  conv => rhs; rw [e]
  rw [List.filter_append, List.filter_append, e1, e2, e3]
  simp

theorem ret_slice {A : Option Addr} {n m c : Nat} (h : n = m) : Ending.returned (.slice A n c) = .returned (.slice A m c) := by rw [h]
/-- A part of a list of arcs is left, where it lay. -/
def PartOf (w : World) (A : Option Addr) (M : List Arc3) (e : Ending) (w' : World) : Prop := ∃ A' c', e = .returned (.slice A' M.length c') ∧ M.length ≤ c' ∧ ArcsAt w' w.heap.size A' M ∧ blockOf A' = blockOf A ∧ Bl w w'

set_option maxHeartbeats 1000000 in
theorem arcsFrom_any (N v : Int) (A : Option Addr) (n c : Nat) (L : List Arc3) (hn : n = L.length) (w : World) (hm : n ≤ 1048576) (hc : n ≤ c) (hs : SortedA L) (ho : ∀ a ∈ L, 0 ≤ a.2.1) (hv0 : -1000000 ≤ v) (hv : v ≤ 1000000) (H1 : ArcsAt w w.heap.size A L) :
    Calls Try.prog 112 #[.agg #[.int .i64 N, .slice A n c], .int .i64 v] w (PartOf w A (fromL v L)) := by
  have K1 := Lib.hid H1
  have HN := Lib.hid hn
  have HS := Lib.hid hs
  have HO := Lib.hid ho
  clear H1 hn hs ho
  go_enter Try.func112, Try.ntmps112
  go_wp2_with fail
  refine (placeOf_any N v 0 A n c L HN.out _ hm HS.out (K1.out.bl (by repeat' (first | exact Bl.refl _ | with_reducible assumption | with_reducible refine Bl.drew_ ?_ | with_reducible refine Bl.drewN_ ?_ _ | with_reducible refine Bl.alloc_ ?_ _ | with_reducible refine Bl.trans_ ?_ (by assumption) | with_reducible refine Bl.trans_ ?_ (And.left (by assumption)))))).mono ?_
  rintro e w1 ⟨p, f, hp, rfl, hb1⟩
  have HP := Lib.hid hp
  clear hp
  obtain ⟨q0, q1⟩ := box2 hb1
  go_wp2_with fail
  refine (placeOf_any N (v + 1) 0 A n c L HN.out _ hm HS.out (K1.out.bl (by repeat' (first | exact Bl.refl _ | with_reducible assumption | with_reducible refine Bl.drew_ ?_ | with_reducible refine Bl.drewN_ ?_ _ | with_reducible refine Bl.alloc_ ?_ _ | with_reducible refine Bl.trans_ ?_ (by assumption) | with_reducible refine Bl.trans_ ?_ (And.left (by assumption)))))).mono ?_
  rintro e w2 ⟨q, f', hq, rfl, hb2⟩
  obtain ⟨hpq, hql, hcut⟩ := from_cut HO.out HP.out hq
  have CUT := Lib.hid hcut
  have hb2' := hb1.trans_ hb2
  clear hq hcut q0 q1
  obtain ⟨q0, q1⟩ := box2 hb2'
  have hqn : q ≤ n := by have := HN.out; omega
  clear hql
  have hz0 : (0 : Int) ≤ (p : Int) := by omega
  have hz1 : (p : Int) ≤ (q : Int) := by omega
  have hz2 : (q : Int) ≤ (c : Int) := by omega
  have HL := Lib.hid (show q - p = (fromL v L).length from by rw [← CUT.out, List.length_drop, List.length_take]; have := HN.out; omega)
  have hbw : Bl w w2 := (Bl.alloc_ (Bl.refl w) _).trans_ hb2'
  go_wp2_with fail
  · go_ret
    exact ⟨A, 0, ret_slice HL.out, by rw [← HL.out]; omega, fun h0 => absurd h0 (by rw [← HL.out]; omega), rfl, hbw⟩
  · go_ret
    refine ⟨_, c - p, ret_slice HL.out, by rw [← HL.out]; omega, fun h0 => ?_, by cases A <;> simp [blockOf, block_of_add], hbw⟩
    rw [← HL.out] at h0
    obtain ⟨g1, o1, rfl, hg1, hc1⟩ := K1.out (by have := HN.out; omega)
    refine ⟨g1, o1 + p * 3, by simp [Addr.add], hg1, fun k hk => ?_⟩
    have hk' : k < q - p := by rw [HL.out]; exact hk
    have e : (fromL v L)[k] = L[p + k]'(by have := HN.out; omega) := by
      simp only [← CUT.out, List.getElem_drop, List.getElem_take]
    obtain ⟨c1, c2, c3⟩ := hc1 (p + k) (by have := HN.out; omega)
    have hb := (bcell hbw).1
    rw [e, hb _ _ hg1, hb _ _ hg1, hb _ _ hg1, show o1 + p * 3 + k * 3 = o1 + (p + k) * 3 from by omega]
    exact ⟨c1, c2, c3⟩

end Go.Proofs.Ytffjpfanmnkmgaa
