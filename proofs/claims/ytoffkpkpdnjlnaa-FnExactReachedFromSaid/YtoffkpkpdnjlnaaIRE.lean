/-
  What is proved here: ReachedFrom of the code and of the model. No conditions beyond those that each theorem states.
-/
import Derived.Test.YtoffkpkpdnjlnaaIRF
import Derived.Deep.MidRow
set_option linter.unusedSimpArgs false
set_option linter.unusedVariables false
namespace Go.Proofs.Ytoffkpkpdnjlnaa
open Go.RowKit

def csB (F : List Bool) : List Value := F.map .bool
theorem csB_len (F : List Bool) : (csB F).length = F.length := by simp [csB]
theorem csB_one (F : List Bool) : (csB F).toArray.all (·.oneCell') = true := by
  refine Array.all_eq_true_iff_forall_mem.2 fun v hv => ?_
  simp [csB] at hv
  rcases hv with ⟨_, rfl⟩ | ⟨_, rfl⟩ <;> rfl
theorem BoolsAt.range {w : World} {b : Nat} {F : List Bool} (h : BoolsAt w b F) : w.rangeAt b 0 (csB F) := fun j v hv => by
  obtain ⟨hj, rfl⟩ := List.getElem?_eq_some_iff.1 hv
  rw [csB_len] at hj
  rw [Nat.zero_add, h.cell j hj]
  simp [csB]
theorem BoolsAt.there_ {w : World} {b : Nat} {F : List Bool} (h : BoolsAt w b F) : w.there b 0 24 := fun j hj => by
  rw [Nat.zero_add]
  exact ⟨by rw [h.cell j (by rw [h.len]; exact hj)]; rfl, h.free j hj⟩
theorem bools_new (w : World) : BoolsAt (w.alloc (.cells #[.bool false, .bool false, .bool false, .bool false, .bool false, .bool false, .bool false, .bool false, .bool false, .bool false, .bool false, .bool false, .bool false, .bool false, .bool false, .bool false, .bool false, .bool false, .bool false, .bool false, .bool false, .bool false, .bool false, .bool false] 124)) w.heap.size (List.replicate 24 false) := by
  refine ⟨by simp, by simp, fun i hi => ?_, fun i hi => ?_⟩
  · rw [List.length_replicate] at hi
    rw [List.getElem_replicate]
    match i, hi with
    | 0, _ | 1, _ | 2, _ | 3, _ | 4, _ | 5, _ | 6, _ | 7, _ | 8, _ | 9, _ | 10, _ | 11, _ | 12, _ | 13, _ | 14, _ | 15, _ | 16, _ | 17, _ | 18, _ | 19, _ | 20, _ | 21, _ | 22, _ | 23, _ => simp [go_sem]
    | (k + 24), h => exact absurd h (by omega)
  · simp [go_sem]
theorem BoolsAt.stored {w : World} {b : Nat} {F G : List Bool} (h : BoolsAt w b F) (hG : G.length = 24) : BoolsAt (w.setCells b 0 (csB G)) b G := by
  refine ⟨hG, by rw [setCells_size]; exact h.lt, fun i hi => ?_, fun i hi => ?_⟩
  · have := World.rangeAt_setCells_same w b 0 (csB G) (by rw [csB_len, hG]; exact h.there_) i (.bool G[i]) (by simp [csB, hi])
    simpa using this
  · rw [World.frozen?_setCells]
    exact h.free i hi
theorem size24b : (Try.prog.info? 124).map (·.size) = some 24 := by kernel_rfl

set_option maxRecDepth 100000 in
set_option maxHeartbeats 8000000 in
theorem reachedFrom_any (N s : Int) (A : Option Addr) (n c : Nat) (L : List Arc3) (hn : n = L.length) (hc : n ≤ c) (hm : n ≤ 1048576) (ho : okB N L = true) (h0 : 0 ≤ s) (h1 : s < N) (w : World) (H1 : ArcsAt w w.heap.size A L) :
    Calls Try.prog 103 #[.agg #[.int .i64 N, .slice A n c], .int .i64 s] w fun e w' => ∃ F : List Bool, e = .returned (.agg (csB F).toArray) ∧ F.length = 24 ∧ (∀ u : Int, 0 ≤ u → (bT F u = true ↔ 0 ≤ dAt (distL N L s) u)) ∧ Bl w w' := by
  have K1 := Lib.hid H1
  have HN := Lib.hid hn
  have HO := Lib.hid ho
  have hN24 := (okB_elim ho).2.1
  clear H1 hn ho
  obtain ⟨v, rfl⟩ : ∃ v : Nat, s = v := ⟨s.toNat, by omega⟩
  have hd0 : 0 ≤ dAt (distL N L (v : Int)) (v : Int) := by
    have := (distL_is (s := (v : Int)) (arcsIn_of_ok HO.out) hN24 h0 h1).start
    omega
  go_enter Try.func103, Try.ntmps103
  have HX1 := Lib.hid (show BoolsAt ((w.alloc (.cells #[.int .i64 N, .slice A n c] 33)).alloc (.cells #[.bool false, .bool false, .bool false, .bool false, .bool false, .bool false, .bool false, .bool false, .bool false, .bool false, .bool false, .bool false, .bool false, .bool false, .bool false, .bool false, .bool false, .bool false, .bool false, .bool false, .bool false, .bool false, .bool false, .bool false] 124)) (w.heap.size + 1) (List.replicate 24 false) from by simpa using bools_new (w.alloc (.cells #[.int .i64 N, .slice A n c] 33)))
  have HX2 := Lib.hid (show BoolsAt (((w.alloc (.cells #[.int .i64 N, .slice A n c] 33)).alloc (.cells #[.bool false, .bool false, .bool false, .bool false, .bool false, .bool false, .bool false, .bool false, .bool false, .bool false, .bool false, .bool false, .bool false, .bool false, .bool false, .bool false, .bool false, .bool false, .bool false, .bool false, .bool false, .bool false, .bool false, .bool false] 124)).alloc (.cells #[.bool false, .bool false, .bool false, .bool false, .bool false, .bool false, .bool false, .bool false, .bool false, .bool false, .bool false, .bool false, .bool false, .bool false, .bool false, .bool false, .bool false, .bool false, .bool false, .bool false, .bool false, .bool false, .bool false, .bool false] 124)) (w.heap.size + 1 + 1) (List.replicate 24 false) from by simpa using bools_new ((w.alloc (.cells #[.int .i64 N, .slice A n c] 33)).alloc (.cells #[.bool false, .bool false, .bool false, .bool false, .bool false, .bool false, .bool false, .bool false, .bool false, .bool false, .bool false, .bool false, .bool false, .bool false, .bool false, .bool false, .bool false, .bool false, .bool false, .bool false, .bool false, .bool false, .bool false, .bool false] 124)))
  have BW := Lib.hid (show Bl w (((w.alloc (.cells #[.int .i64 N, .slice A n c] 33)).alloc (.cells #[.bool false, .bool false, .bool false, .bool false, .bool false, .bool false, .bool false, .bool false, .bool false, .bool false, .bool false, .bool false, .bool false, .bool false, .bool false, .bool false, .bool false, .bool false, .bool false, .bool false, .bool false, .bool false, .bool false, .bool false] 124)).alloc (.cells #[.bool false, .bool false, .bool false, .bool false, .bool false, .bool false, .bool false, .bool false, .bool false, .bool false, .bool false, .bool false, .bool false, .bool false, .bool false, .bool false, .bool false, .bool false, .bool false, .bool false, .bool false, .bool false, .bool false, .bool false] 124)) from Bl.alloc_ (Bl.alloc_ (Bl.alloc_ (Bl.refl w) _) _) _)
  have HXB := Lib.hid (show ∀ o, Bl ((w.alloc (.cells #[.int .i64 N, .slice A n c] 33)).alloc (.cells #[.bool false, .bool false, .bool false, .bool false, .bool false, .bool false, .bool false, .bool false, .bool false, .bool false, .bool false, .bool false, .bool false, .bool false, .bool false, .bool false, .bool false, .bool false, .bool false, .bool false, .bool false, .bool false, .bool false, .bool false] 124)) ((((w.alloc (.cells #[.int .i64 N, .slice A n c] 33)).alloc (.cells #[.bool false, .bool false, .bool false, .bool false, .bool false, .bool false, .bool false, .bool false, .bool false, .bool false, .bool false, .bool false, .bool false, .bool false, .bool false, .bool false, .bool false, .bool false, .bool false, .bool false, .bool false, .bool false, .bool false, .bool false] 124)).alloc (.cells #[.bool false, .bool false, .bool false, .bool false, .bool false, .bool false, .bool false, .bool false, .bool false, .bool false, .bool false, .bool false, .bool false, .bool false, .bool false, .bool false, .bool false, .bool false, .bool false, .bool false, .bool false, .bool false, .bool false, .bool false] 124)).alloc o) from fun o => Bl.alloc_ (Bl.alloc_ (Bl.refl _) _) _)
  go_wp2_with fail
  obtain ⟨X, hX⟩ : ∃ X, X = (((w.alloc (.cells #[.int .i64 N, .slice A n c] 33)).alloc (.cells #[.bool false, .bool false, .bool false, .bool false, .bool false, .bool false, .bool false, .bool false, .bool false, .bool false, .bool false, .bool false, .bool false, .bool false, .bool false, .bool false, .bool false, .bool false, .bool false, .bool false, .bool false, .bool false, .bool false, .bool false] 124)).alloc (.cells #[.bool false, .bool false, .bool false, .bool false, .bool false, .bool false, .bool false, .bool false, .bool false, .bool false, .bool false, .bool false, .bool false, .bool false, .bool false, .bool false, .bool false, .bool false, .bool false, .bool false, .bool false, .bool false, .bool false, .bool false] 124)).alloc (.cells #[.func (.func 129) #[] #[.pointer (some ⟨w.heap.size + 1 + 1, 0, none⟩), .pointer (some ⟨w.heap.size, 0, none⟩), .pointer (some ⟨w.heap.size + 1 + 1 + 1, 0, none⟩)]] 146) := ⟨_, rfl⟩
  rw [← hX]
  have Y1 := Lib.hid (show BoolsAt X (w.heap.size + 1) (List.replicate 24 false) from by rw [hX]; exact HX1.out.bl (HXB.out _))
  have Y2 := Lib.hid (show BoolsAt X (w.heap.size + 1 + 1) (List.replicate 24 false) from by rw [hX]; exact HX2.out.bl (Bl.alloc_ (Bl.refl _) _))
  have BX := Lib.hid (show Bl w X from by rw [hX]; exact Bl.alloc_ BW.out _)
  have HR := Lib.hid (show RIn X (w.heap.size + 1 + 1) w.heap.size (w.heap.size + 1 + 1 + 1) N A n c L from by
    refine ⟨?_, ?_, ?_, K1.out.bl BX.out, by omega, by omega, fun h0 e => ?_⟩
    · rw [hX]; simp [go_sem]
    · rw [hX]; simp [go_sem]
    · rw [hX]; simp [go_sem]
    · obtain ⟨g, off, rfl, hg, -⟩ := K1.out h0
      simp [blockOf] at e
      omega)
  clear hX HX1 HX2 HXB
  refine (goTo_any N v A n c L HN.out hc hm HO.out h0 h1 (w.heap.size + 1 + 1) w.heap.size (w.heap.size + 1 + 1 + 1) _ _ v X (Nat.lt_succ_self _) h1 hd0 Y2.out HR.out).mono ?_
  rintro e w1 ⟨rfl, F, hB, hG, ht, hT⟩
  have FB := Lib.hid hB
  have FL := Lib.hid hB.len
  have FE := Lib.hid (fun u hu => grow_all (arcsIn_of_ok HO.out) hN24 h0 h1 hG ht u hu)
  have R1 := Lib.hid (Y1.out.turn hT (by omega))
  have B1 := Lib.hid (show Bl w w1 from Turn.to_bl BX.out hT (fun i hi => by rw [hi]; omega))
  clear hB hG ht hT
  go_wp2_with (first | (refine wpList_load_mid rfl 124 (.tmp 5) rfl (w.heap.size + 1 + 1) 0 rfl (csB F) _ FB.out.range Try.underlying124 rfl (by rw [csB_len, FL.out]; exact size24b) ?_) | (refine wpList_store_mid rfl 124 (.tmp 4) (.tmp 11) rfl (w.heap.size + 1) 0 (csB F).toArray rfl rfl ?c1 ?c2 (csB_one _) ?_))
  case c1 => simpa [csB_len, FL.out] using R1.out.there_
  case c2 => simpa [csB_len, FL.out] using size24b
  have hov := R1.out.stored FL.out
  refine ⟨rfl, _, results_cell_mid rfl _ _ (w.heap.size + 1) (csB F) _ rfl hov.range Try.underlying124 rfl (by rw [csB_len, FL.out]; exact size24b), ?_⟩
  exact ⟨F, rfl, FL.out, FE.out, Bl.setCells_ _ (by omega) _ _ _ B1.out⟩

theorem index24b (F : List Bool) (hE : F.length = 24) (u : Nat) (hu : u < 24) (w : World) : (Instr.index 124 (.agg (csB F).toArray) (.int .i64 (u : Int))).run Try.prog w = .ok (.bool (bT F (u : Int))) w := by
  have h1 : (0 : Int) ≤ (u : Int) ∧ (u : Int) < 24 := by omega
  have hz : (Go.sizeOf 4).run Try.prog w = .ok 1 w := by kernel_rfl
  have ha : (Go.isAgg 4).run Try.prog w = .ok false w := by kernel_rfl
  unfold Instr.index csB
  simp [Sem.run_bind, asIntOf, run_underlying Try.underlying124, Result.andThen, h1, hz, ha, part, bT, hE, hu]

/-- The nodes that are reached from s, rising. -/
def reachFL (N : Int) (L : List Arc3) (s : Int) : List Int := if has1 N L s = true then reachL (distL N L s) N.toNat else []
theorem reachFL_len (N : Int) (L : List Arc3) (s : Int) : (reachFL N L s).length ≤ 1048576 := by
  unfold reachFL
  split
  · obtain ⟨ho, h0, h1⟩ := has1_of ‹_›
    have := (okB_elim ho).2.1
    have := reachL_len (distL N L s) N.toNat
    omega
  · simp

set_option maxRecDepth 100000 in
set_option maxHeartbeats 4000000 in
theorem implReachedFrom_any (N s : Int) (A : Option Addr) (n c : Nat) (L : List Arc3) (hn : n = L.length) (hc : n ≤ c) (w : World) (hm : n ≤ 1048576) (H1 : ArcsAt w w.heap.size A L) :
    Calls Try.prog 57 #[.agg #[.int .i64 N, .slice A n c], .int .i64 s] w (NumsMade (reachFL N L s) w) := by
  obtain ⟨i0, hi, hz0, hz1, hz2⟩ := info_parts infoInt
  have I0 := Lib.hid hi
  have I1 := Lib.hid hz0
  have I2 := Lib.hid hz1
  have I3 := Lib.hid hz2
  have K1 := Lib.hid H1
  have HN := Lib.hid hn
  clear H1 hn hi hz0 hz1 hz2
  cases hh : has1 N L s with
  | false =>
    have HH := Lib.hid hh
    clear hh
    go_enter Try.func57, Try.ntmps57
    go_wp2_with fail
    refine (hasNodes_1 N s A n c L HN.out (w.heap.size + 1) 1 _ (by omega) (K1.out.bl (by repeat' (first | exact Bl.refl _ | with_reducible assumption | with_reducible refine Bl.drew_ ?_ | with_reducible refine Bl.drewN_ ?_ _ | with_reducible refine Bl.alloc_ ?_ _ | with_reducible refine Bl.trans_ ?_ (by assumption) | with_reducible refine Bl.trans_ ?_ (And.left (by assumption))))) (by simp) (by simp [go_sem])).mono ?_
    rintro e w1 ⟨rfl, hb1⟩
    rw [HH.out]
    go_wp2
    go_ret
    exact ⟨_, rfl, by unfold reachFL; rw [if_neg (by rw [HH.out]; simp)]; exact OwnN.nil_ _ _, (by repeat' (first | exact Bl.refl _ | with_reducible assumption | with_reducible refine Bl.drew_ ?_ | with_reducible refine Bl.drewN_ ?_ _ | with_reducible refine Bl.alloc_ ?_ _ | with_reducible refine Bl.trans_ ?_ (by assumption) | with_reducible refine Bl.trans_ ?_ (And.left (by assumption))))⟩
  | true =>
    have HH := Lib.hid hh
    obtain ⟨ho, hs0, hs1⟩ := has1_of hh
    have hN24 := (okB_elim ho).2.1
    have HO := Lib.hid ho
    clear hh ho
    go_enter Try.func57, Try.ntmps57
    go_wp2_with fail
    refine (hasNodes_1 N s A n c L HN.out (w.heap.size + 1) 1 _ (by omega) (K1.out.bl (by repeat' (first | exact Bl.refl _ | with_reducible assumption | with_reducible refine Bl.drew_ ?_ | with_reducible refine Bl.drewN_ ?_ _ | with_reducible refine Bl.alloc_ ?_ _ | with_reducible refine Bl.trans_ ?_ (by assumption) | with_reducible refine Bl.trans_ ?_ (And.left (by assumption))))) (by simp) (by simp [go_sem])).mono ?_
    rintro e w1 ⟨rfl, hb1⟩
    rw [HH.out]
    have hx := (bcell hb1).1
    have q0 : w1.cell? ⟨w.heap.size, 0, none⟩ = some (.int .i64 N) := (hx _ _ (by simp; omega)).trans (by simp [go_sem])
    have q1 : w1.cell? ⟨w.heap.size, 1, none⟩ = some (.slice A n c) := (hx _ _ (by simp; omega)).trans (by simp [go_sem])
    have hbw : Bl w w1 := (((Bl.refl w).alloc_ _).alloc_ _).trans_ hb1
    clear hx hb1
    go_wp2_with fail
    refine (reachedFrom_any N s A n c L HN.out hc hm HO.out hs0 hs1 _ (K1.out.bl hbw)).mono ?_
    rintro e w2 ⟨F, rfl, hF, hFd, hb2⟩
    have FL := Lib.hid hF
    have FE := Lib.hid hFd
    have B2 := Lib.hid (hbw.trans_ hb2)
    have DL := Lib.hid (distL_len HO.out hs0 hs1)
    clear hF hFd hb2 hbw q0 q1
    obtain ⟨D, hD⟩ : ∃ D, D = distL N L s := ⟨_, rfl⟩
    have HDD := Lib.hid hD
    rw [← hD] at FE DL
    clear hD
    go_wp2_with fail
    go_loopw [5, 16] (fun v i wr => ∃ k : Nat, k ≤ 24 ∧ i = .int .i64 k ∧ OwnN wr w2.heap.size v (reachL D k) ∧ Bl w2 wr) (fun _ i _ => 24 - (intOf i).toNat)
    case atStart => exact ⟨0, by omega, rfl, OwnN.nil_ _ _, Bl.refl _⟩
    case round =>
      obtain ⟨k, hk, rfl, hO, hbl⟩ := hrel
      have OO := Lib.hid hO
      have BB := Lib.hid hbl
      have s0 := B2.out.size
      have s1 := hbl.size
      clear hO hbl
      by_cases hlt : k < 24
      · have hix := index24b F FL.out k hlt wr
        have EK := Lib.hid (FE.out (k : Int) (by omega))
        by_cases hd : 0 ≤ dAt D (k : Int)
        · have hbt := EK.out.2 hd
          have RY := Lib.hid (reachL_yes hd)
          rw [hbt] at hix
          obtain ⟨m, hm9⟩ : ∃ m, m = (reachL D k).length := ⟨_, rfl⟩
          have HM := Lib.hid hm9
          have hmk : m ≤ 24 := by rw [hm9]; exact Nat.le_trans (reachL_len D k) hk
          have OW := Lib.hid (show wr.ownsRow w2.heap.size 2 1 u5 m (csI (reachL D k)) from by rw [hm9]; exact OO.out)
          clear hm9 hbt
          go_wp2_with (at_builtin; refine wpList_append_any _ rfl (.tmp 21) (.tmp 23) _ rfl w2.heap.size 2 i0 _ 1 8 Try.underlying26 I0.out I1.out I2.out I3.out rfl (by decide) _ m (csI (reachL D k)) rfl (World.ownsRow.alloc OW.out _) (wr.heap.size + 1) (some ⟨wr.heap.size, 0, none⟩) 1 1 [.int .i64 (k : Int)] rfl ?c0 (by simp [Value.oneCell']) ?c3 ?c4 ?c5 ?_)
          case c0 =>
            refine ⟨rfl, fun _ => ⟨_, rfl, by show wr.heap.size < wr.heap.size + 1; omega, fun x u hj => ?_⟩⟩
            match x, hj with
            | 0, hj => simp at hj; subst hj; simp [Addr.add, go_sem]
            | (x + 1), hj => simp at hj
          case c3 => unfold maxLen; omega
          case c4 => omega
          case c5 => first | omega | (simp; omega)
          intro v' w8 hown' hgrow hwh
          have O8 := Lib.hid (OwnN.snoc (V := reachL D k) (x := (k : Int)) (n := m) HM.out hown')
          rw [← RY.out] at O8
          have hol := fun g h => (Owns.lt OO.out g h).1
          have B8 := Lib.hid (show Bl w2 w8 from (BB.out.alloc_ _).grown_ hgrow (fun g hg => hol g hg))
          clear hown' hgrow hwh hix
          go_wp2
          go_roundw
          case rel => exact ⟨k + 1, by omega, by go_num, O8.out, B8.out⟩
          case measure => simp [intOf]; omega
        · have hbt : bT F (k : Int) = false := by
            cases hb : bT F (k : Int) with
            | true => exact absurd (EK.out.1 hb) hd
            | false => rfl
          have RN := Lib.hid (reachL_no hd)
          rw [hbt] at hix
          go_wp2
          go_roundw
          case rel => exact ⟨k + 1, by omega, by go_num, by rw [RN.out]; exact OO.out, BB.out⟩
          case measure => simp [intOf]; omega
      · obtain rfl : k = 24 := by omega
        have HF := Lib.hid (show reachL D 24 = reachFL N L s from by
          unfold reachFL
          rw [if_pos HH.out, ← HDD.out]
          exact reachL_out DL.out (by omega))
        go_wp2
        go_ret
        exact ⟨_, rfl, by rw [← HF.out]; exact OO.out.low s0, B2.out.trans_ BB.out⟩

end Go.Proofs.Ytoffkpkpdnjlnaa
