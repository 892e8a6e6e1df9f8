/-
  What is proved here: MeetOf of the model and of the code. No conditions beyond those that each theorem states.
-/
import Derived.Test.YtmdmbobjdhjadaaNS1
import Derived.Test.YtmdmbobjdhjadaaK2
import Derived.Test.YtmdmbobjdhjadaaPB
set_option linter.unusedSimpArgs false
set_option linter.unusedVariables false
namespace Go.Proofs.Ytmdmbobjdhjadaa
open Go.RowKit

/-- One more node: where both sides are, nearer than so far? -/
def mStep (b : Int × Int) (d e k : Int) : Int × Int := if 0 ≤ d ∧ 0 ≤ e ∧ (b.1 < 0 ∨ d + e < b.1) then (d + e, k) else b
def meetSt (D E : List Int) : Nat → Int × Int
  | 0 => (-1, -1)
  | k + 1 => mStep (meetSt D E k) (dAt D k) (dAt E k) k
/-- May these be the distances of nodes? -/
def sideB (D : List Int) : Bool := decide (D.length ≤ 24) && D.all fun d => decide (-1 ≤ d ∧ d ≤ 24000)
def meetB (D E : List Int) : Bool := sideB D && sideB E && decide (D.length = E.length)
def meetP (D E : List Int) : Int × Int := if meetB D E = true then meetSt D E D.length else (-1, -1)
theorem sideB_at {D : List Int} (h : sideB D = true) {k : Nat} (hk : k < D.length) : -1 ≤ D[k] ∧ D[k] ≤ 24000 := by
  unfold sideB at h
  rw [Bool.and_eq_true, List.all_eq_true] at h
  have := h.2 D[k] (List.getElem_mem hk)
  simpa using this
theorem sideB_len {D : List Int} (h : sideB D = true) : D.length ≤ 24 := by
  unfold sideB at h
  rw [Bool.and_eq_true] at h
  simpa using h.1
theorem mStep_no {b : Int × Int} {d e k : Int} (h : ¬ (0 ≤ d ∧ 0 ≤ e ∧ (b.1 < 0 ∨ d + e < b.1))) : mStep b d e k = b := if_neg h
theorem mStep_yes {b : Int × Int} {d e k : Int} (h : 0 ≤ d ∧ 0 ≤ e ∧ (b.1 < 0 ∨ d + e < b.1)) : mStep b d e k = (d + e, k) := if_pos h

/-- A half: its box. -/
def halfC (A : Option Addr) (n c : Nat) (x : Value) (r : Int) : Array Value := #[.slice A n c, x, .int .i64 r]

set_option maxHeartbeats 1000000 in
theorem specSide_any (A : Option Addr) (n c : Nat) (D : List Int) (hn : n = D.length) (x : Value) (r : Int) (w : World) (hm : n ≤ 9223372036854775807) (H1 : IntsAt w w.heap.size A D) :
    Calls Try.prog 101 #[.agg #[.slice A n c, x, .int .i64 r]] w fun e w' => e = .returned (.bool (sideB D)) ∧ Bl w w' := by
  have K1 := Lib.hid H1
  have HN := Lib.hid hn
  clear H1 hn
  go_enter Try.func101, Try.ntmps101
  go_wp2
  go_loopw [3] (fun i wr => ∃ k : Nat, k ≤ n ∧ i = .int .i64 k ∧ Bl (w.alloc (.cells #[.slice A n c, x, .int .i64 r] 63)) wr ∧ Hid (∀ j (h : j < D.length), j < k → -1 ≤ D[j] ∧ D[j] ≤ 24000)) (fun i _ => n - (intOf i).toNat)
  case atStart => exact ⟨0, by omega, rfl, Bl.refl _, Lib.hid fun j h h' => absurd h' (by omega)⟩
  case round =>
    obtain ⟨k, hk, rfl, hbl, NO⟩ := hrel
    obtain ⟨q0, q1, q2⟩ := box3 hbl
    have hbw : Bl w wr := (Bl.alloc_ (Bl.refl w) _).trans_ hbl
    by_cases hlt : k < n
    · have hkl : k < D.length := by have := HN.out; omega
      obtain ⟨g1, o1, rfl, hg1, hc1⟩ := K1.out.cell (by omega)
      have p1 := hc1 k hkl
      rw [← (bcell hbw).1 _ _ hg1] at p1
      clear hc1
      generalize hx : D[k] = d at p1
      have HX := Lib.hid hx
      clear hx
      by_cases hin : -1 ≤ d ∧ d ≤ 24000
      · have HI := Lib.hid (show inB d (-1) 24000 = true from by unfold inB; simpa using hin)
        have HIN := Lib.hid hin
        clear hin
        go_wp2_with fail
        refine (l1In_any d (-1) 24000 _).mono ?_
        rintro e w3 ⟨rfl, rfl⟩
        rw [HI.out]
        go_wp2
        go_roundw
        case rel =>
          refine ⟨k + 1, by omega, by go_num, hbl, Lib.hid fun j h hj => ?_⟩
          rcases Nat.lt_or_ge j k with h' | h'
          · exact NO.out j h h'
          · obtain rfl : j = k := by omega
            rw [HX.out]
            exact HIN.out
        case measure => simp [intOf]; omega
      · have HI := Lib.hid (show inB d (-1) 24000 = false from by unfold inB; simpa using hin)
        have HIN := Lib.hid hin
        clear hin
        go_wp2_with fail
        refine (l1In_any d (-1) 24000 _).mono ?_
        rintro e w3 ⟨rfl, rfl⟩
        rw [HI.out]
        go_wp2
        go_ret
        refine ⟨ret_bool ?_, hbw⟩
        cases hs : sideB D with
        | false => rfl
        | true => exact absurd (by have := sideB_at hs hkl; rwa [HX.out] at this) HIN.out
    · have hkn : k = n := by omega
      go_wp2
      go_ret
      refine ⟨ret_bool ?_, hbw⟩
      unfold sideB
      have hall : (D.all fun d => decide (-1 ≤ d ∧ d ≤ 24000)) = true := by
        rw [List.all_eq_true]
        intro d hd
        obtain ⟨j, hj, rfl⟩ := List.mem_iff_getElem.1 hd
        simpa using NO.out j hj (by have := HN.out; omega)
      rw [hall, Bool.and_true, Bool.eq_iff_iff]
      have := HN.out
      simp only [decide_eq_true_eq]
      omega

set_option maxHeartbeats 1000000 in
theorem distsOk_any (A : Option Addr) (n c : Nat) (D : List Int) (hn : n = D.length) (w : World) (hm : n ≤ 9223372036854775807) (H1 : IntsAt w w.heap.size A D) :
    Calls Try.prog 103 #[.slice A n c] w fun e w' => e = .returned (.bool (sideB D)) ∧ Bl w w' := by
  have K1 := Lib.hid H1
  have HN := Lib.hid hn
  clear H1 hn
  by_cases h24 : 24 < n
  · have h24' : (24 : Int) < (n : Int) := by omega
    go_enter Try.func103, Try.ntmps103
    go_wp2
    go_ret
    refine ⟨ret_bool ?_, (by repeat' (first | exact Bl.refl _ | with_reducible assumption | with_reducible refine Bl.drew_ ?_ | with_reducible refine Bl.drewN_ ?_ _ | with_reducible refine Bl.alloc_ ?_ _ | with_reducible refine Bl.trans_ ?_ (by assumption) | with_reducible refine Bl.trans_ ?_ (And.left (by assumption))))⟩
    unfold sideB
    rw [decide_eq_false (by have := HN.out; omega), Bool.false_and]
  · have h24' : decide ((24 : Int) < (n : Int)) = false := by simp; omega
    go_enter Try.func103, Try.ntmps103
    go_wp2
    go_loopw [10] (fun i wr => ∃ k : Nat, k ≤ n ∧ i = .int .i64 k ∧ Bl w wr ∧ Hid (∀ j (h : j < D.length), j < k → -1 ≤ D[j] ∧ D[j] ≤ 24000)) (fun i _ => n - (intOf i).toNat)
    case atStart => exact ⟨0, by omega, rfl, Bl.refl _, Lib.hid fun j h h' => absurd h' (by omega)⟩
    case round =>
      obtain ⟨k, hk, rfl, hbl, NO⟩ := hrel
      by_cases hlt : k < n
      · have hkl : k < D.length := by have := HN.out; omega
        obtain ⟨g1, o1, rfl, hg1, hc1⟩ := K1.out.cell (by omega)
        have p1 := hc1 k hkl
        rw [← (bcell hbl).1 _ _ hg1] at p1
        clear hc1
        generalize hx : D[k] = d at p1
        have HX := Lib.hid hx
        clear hx
        by_cases h1 : d < -1
        · have b1 : decide (d < -1) = true := by simpa using h1
          go_wp2
          go_ret
          refine ⟨ret_bool ?_, hbl⟩
          cases hs : sideB D with
          | false => rfl
          | true => exact absurd (by have := sideB_at hs hkl; rwa [HX.out] at this) (by omega)
        · have b1 : decide (d < -1) = false := by simpa using h1
          by_cases h2 : 24000 < d
          · have b2 : decide (24000 < d) = true := by simpa using h2
            go_wp2
            go_ret
            refine ⟨ret_bool ?_, hbl⟩
            cases hs : sideB D with
            | false => rfl
            | true => exact absurd (by have := sideB_at hs hkl; rwa [HX.out] at this) (by omega)
          · have b2 : decide (24000 < d) = false := by simpa using h2
            go_wp2
            go_roundw
            case rel =>
              refine ⟨k + 1, by omega, by go_num, hbl, Lib.hid fun j h hj => ?_⟩
              rcases Nat.lt_or_ge j k with h' | h'
              · exact NO.out j h h'
              · obtain rfl : j = k := by omega
                rw [HX.out]
                omega
            case measure => simp [intOf]; omega
      · have hkn : k = n := by omega
        go_wp2
        go_ret
        refine ⟨ret_bool ?_, hbl⟩
        unfold sideB
        have hall : (D.all fun d => decide (-1 ≤ d ∧ d ≤ 24000)) = true := by
          rw [List.all_eq_true]
          intro d hd
          obtain ⟨j, hj, rfl⟩ := List.mem_iff_getElem.1 hd
          simpa using NO.out j hj (by have := HN.out; omega)
        rw [hall, Bool.and_true, decide_eq_true (by have := HN.out; omega)]

set_option maxRecDepth 100000 in
set_option maxHeartbeats 2000000 in
theorem l4Meet_any (A B : Option Addr) (n c c' : Nat) (D E : List Int) (hn : n = D.length) (hn' : n = E.length) (x y : Value) (r r' : Int) (w : World) (hD : sideB D = true) (hE : sideB E = true) (H1 : IntsAt w w.heap.size A D) (H2 : IntsAt w w.heap.size B E) :
    Calls Try.prog 102 #[.agg #[.slice A n c, x, .int .i64 r], .agg #[.slice B n c', y, .int .i64 r']] w fun e w' => e = .returned (.tuple #[.int .i64 (meetSt D E D.length).1, .int .i64 (meetSt D E D.length).2]) ∧ Bl w w' := by
  have K1 := Lib.hid H1
  have K2 := Lib.hid H2
  have HN := Lib.hid hn
  have HN' := Lib.hid hn'
  have SD := Lib.hid hD
  have SE := Lib.hid hE
  have h24 : n ≤ 24 := by have := sideB_len hD; omega
  clear H1 H2 hn hn' hD hE
  go_enter Try.func102, Try.ntmps102
  go_wp2
  go_loopw [6, 7, 8] (fun b a i wr => ∃ k : Nat, k ≤ n ∧ i = .int .i64 k ∧ b = .int .i64 (meetSt D E k).1 ∧ a = .int .i64 (meetSt D E k).2 ∧ Bl ((w.alloc (.cells #[.slice A n c, x, .int .i64 r] 63)).alloc (.cells #[.slice B n c', y, .int .i64 r'] 63)) wr) (fun _ _ i _ => n - (intOf i).toNat)
  case atStart => exact ⟨0, by omega, rfl, rfl, rfl, Bl.refl _⟩
  case round =>
    obtain ⟨k, hk, rfl, rfl, rfl, hbl⟩ := hrel
    obtain ⟨q0, q1, q2⟩ := box3 ((Bl.alloc_ (Bl.refl (w.alloc (.cells #[.slice A n c, x, .int .i64 r] 63))) _).trans_ hbl)
    obtain ⟨z0, z1, z2⟩ := box3 hbl
    simp only [World.size_alloc] at z0 z1 z2
    have hbw : Bl w wr := (Bl.alloc_ (Bl.alloc_ (Bl.refl w) _) _).trans_ hbl
    obtain ⟨best, at', hst⟩ : ∃ b a, meetSt D E k = (b, a) := ⟨_, _, rfl⟩
    rw [hst]
    have HST := Lib.hid hst
    have ST := Lib.hid (show meetSt D E (k + 1) = mStep (best, at') (dAt D k) (dAt E k) k from by rw [← hst]; rfl)
    clear hst
    dsimp only
    by_cases hlt : k < n
    · have hkl : k < D.length := by have := HN.out; omega
      have hkl' : k < E.length := by have := HN'.out; omega
      obtain ⟨g1, o1, rfl, hg1, hc1⟩ := K1.out.cell (by omega)
      obtain ⟨g2, o2, rfl, hg2, hc2⟩ := K2.out.cell (by omega)
      have p1 := hc1 k hkl
      have p2 := hc2 k hkl'
      rw [← (bcell hbw).1 _ _ hg1] at p1
      rw [← (bcell hbw).1 _ _ hg2] at p2
      clear hc1 hc2
      have d0 := sideB_at SD.out hkl
      have e0 := sideB_at SE.out hkl'
      have hda := dAt_at hkl
      have hea := dAt_at hkl'
      generalize D[k] = d at p1 d0 hda
      generalize E[k] = e at p2 e0 hea
      rw [hda, hea] at ST
      clear hda hea
      have i0 : (0 : Int) ≤ (k : Int) := by omega
      have i1 : (k : Int) < (n : Int) := by omega
      have a1 : IntKind.i64.wrap (d + e) = d + e := IntWalk.i64_in _ (by omega)
      by_cases h1 : d < 0
      · have b1 : decide (d < 0) = true := by simpa using h1
        go_wp2
        go_roundw
        case rel => exact ⟨k + 1, by omega, by go_num, by rw [ST.out, mStep_no (by dsimp only; omega)], by rw [ST.out, mStep_no (by dsimp only; omega)], hbl⟩
        case measure => simp [intOf]; omega
      · have b1 : decide (d < 0) = false := by simpa using h1
        by_cases h2 : e < 0
        · have b2 : decide (e < 0) = true := by simpa using h2
          go_wp2
          go_roundw
          case rel => exact ⟨k + 1, by omega, by go_num, by rw [ST.out, mStep_no (by dsimp only; omega)], by rw [ST.out, mStep_no (by dsimp only; omega)], hbl⟩
          case measure => simp [intOf]; omega
        · have b2 : decide (e < 0) = false := by simpa using h2
          by_cases h3 : best < 0
          · have b3 : decide (best < 0) = true := by simpa using h3
            go_wp2
            go_quiet (fail)
            go_wp2
            go_roundw
            case rel => exact ⟨k + 1, by omega, by go_num, by rw [ST.out, mStep_yes (by dsimp only; omega)], by rw [ST.out, mStep_yes (by dsimp only; omega)], (by repeat' (first | exact Bl.refl _ | with_reducible assumption | with_reducible refine Bl.drew_ ?_ | with_reducible refine Bl.drewN_ ?_ _ | with_reducible refine Bl.alloc_ ?_ _ | with_reducible refine Bl.trans_ ?_ (by assumption) | with_reducible refine Bl.trans_ ?_ (And.left (by assumption))))⟩
            case measure => simp [intOf]; omega
          · have b3 : decide (best < 0) = false := by simpa using h3
            by_cases h4 : d + e < best
            · have b4 : decide (d + e < best) = true := by simpa using h4
              go_wp2
              go_quiet (fail)
              go_wp2
              go_roundw
              case rel => exact ⟨k + 1, by omega, by go_num, by rw [ST.out, mStep_yes (by dsimp only; omega)], by rw [ST.out, mStep_yes (by dsimp only; omega)], (by repeat' (first | exact Bl.refl _ | with_reducible assumption | with_reducible refine Bl.drew_ ?_ | with_reducible refine Bl.drewN_ ?_ _ | with_reducible refine Bl.alloc_ ?_ _ | with_reducible refine Bl.trans_ ?_ (by assumption) | with_reducible refine Bl.trans_ ?_ (And.left (by assumption))))⟩
              case measure => simp [intOf]; omega
            · have b4 : decide (d + e < best) = false := by simpa using h4
              go_wp2
              go_quiet (fail)
              go_wp2
              go_roundw
              case rel => exact ⟨k + 1, by omega, by go_num, by rw [ST.out, mStep_no (by dsimp only; omega)], by rw [ST.out, mStep_no (by dsimp only; omega)], (by repeat' (first | exact Bl.refl _ | with_reducible assumption | with_reducible refine Bl.drew_ ?_ | with_reducible refine Bl.drewN_ ?_ _ | with_reducible refine Bl.alloc_ ?_ _ | with_reducible refine Bl.trans_ ?_ (by assumption) | with_reducible refine Bl.trans_ ?_ (And.left (by assumption))))⟩
              case measure => simp [intOf]; omega
    · obtain rfl : k = n := by omega
      go_wp2
      go_ret2
      exact ⟨by rw [← HN.out, HST.out]; rfl, hbw⟩

/-- What is left where two halves meet. -/
def MeetLeft (D E : List Int) (w : World) (e : Ending) (w' : World) : Prop := e = .returned (.tuple #[.int .i64 (meetP D E).1, .int .i64 (meetP D E).2]) ∧ Bl w w'
theorem MeetLeft.no {D E : List Int} {w w' : World} (h : meetB D E = false) (hb : Bl w w') : MeetLeft D E w (.returned (.tuple #[.int .i64 (-1), .int .i64 (-1)])) w' :=
  ⟨by unfold meetP; rw [if_neg (by rw [h]; simp)], hb⟩

set_option maxRecDepth 100000 in
set_option maxHeartbeats 2000000 in
theorem specMeet_any (A B : Option Addr) (n c m c' : Nat) (D E : List Int) (hn : n = D.length) (hm : m = E.length) (x y : Value) (r r' : Int) (w : World) (h1 : n ≤ 9223372036854775807) (h2 : m ≤ 9223372036854775807) (H1 : IntsAt w w.heap.size A D) (H2 : IntsAt w w.heap.size B E) :
    Calls Try.prog 55 #[.agg #[.slice A n c, x, .int .i64 r], .agg #[.slice B m c', y, .int .i64 r']] w (MeetLeft D E w) := by
  have K1 := Lib.hid H1
  have K2 := Lib.hid H2
  have HN := Lib.hid hn
  have HM := Lib.hid hm
  clear H1 H2 hn hm
  have q3 : ∀ wx, Bl ((w.alloc (.cells #[.slice A n c, x, .int .i64 r] 63)).alloc (.cells #[.slice B m c', y, .int .i64 r'] 63)) wx → wx.cell? ⟨w.heap.size, 0, none⟩ = some (.slice A n c) ∧ wx.cell? ⟨w.heap.size, 1, none⟩ = some x ∧ wx.cell? ⟨w.heap.size, 2, none⟩ = some (.int .i64 r) ∧ wx.cell? ⟨w.heap.size + 1, 0, none⟩ = some (.slice B m c') ∧ wx.cell? ⟨w.heap.size + 1, 1, none⟩ = some y ∧ wx.cell? ⟨w.heap.size + 1, 2, none⟩ = some (.int .i64 r') := fun wx hb => by
    obtain ⟨a0, a1, a2⟩ := box3 ((Bl.alloc_ (Bl.refl (w.alloc (.cells #[.slice A n c, x, .int .i64 r] 63))) _).trans_ hb)
    obtain ⟨z0, z1, z2⟩ := box3 hb
    simp only [World.size_alloc] at z0 z1 z2
    exact ⟨a0, a1, a2, z0, z1, z2⟩
  have Q3 := Lib.hid q3
  clear q3
  cases hD : sideB D with
  | false =>
    have HD := Lib.hid hD
    clear hD
    go_enter Try.func55, Try.ntmps55
    go_wp2_with fail
    refine (specSide_any A n c D HN.out x r _ h1 (K1.out.bl (by repeat' (first | exact Bl.refl _ | with_reducible assumption | with_reducible refine Bl.drew_ ?_ | with_reducible refine Bl.drewN_ ?_ _ | with_reducible refine Bl.alloc_ ?_ _ | with_reducible refine Bl.trans_ ?_ (by assumption) | with_reducible refine Bl.trans_ ?_ (And.left (by assumption)))))).mono ?_
    rintro e w1 ⟨rfl, hb1⟩
    rw [HD.out]
    go_wp2
    go_ret2
    exact MeetLeft.no (by unfold meetB; rw [HD.out]; rfl) ((Bl.alloc_ (Bl.alloc_ (Bl.refl w) _) _).trans_ hb1)
  | true =>
    have HD := Lib.hid hD
    clear hD
    cases hE : sideB E with
    | false =>
      have HE := Lib.hid hE
      clear hE
      go_enter Try.func55, Try.ntmps55
      go_wp2_with fail
      refine (specSide_any A n c D HN.out x r _ h1 (K1.out.bl (by repeat' (first | exact Bl.refl _ | with_reducible assumption | with_reducible refine Bl.drew_ ?_ | with_reducible refine Bl.drewN_ ?_ _ | with_reducible refine Bl.alloc_ ?_ _ | with_reducible refine Bl.trans_ ?_ (by assumption) | with_reducible refine Bl.trans_ ?_ (And.left (by assumption)))))).mono ?_
      rintro e w1 ⟨rfl, hb1⟩
      rw [HD.out]
      obtain ⟨a0, a1, a2, z0, z1, z2⟩ := Q3.out _ hb1
      go_wp2_with fail
      refine (specSide_any B m c' E HM.out y r' _ h2 (K2.out.bl ((Bl.alloc_ (Bl.alloc_ (Bl.refl w) _) _).trans_ hb1))).mono ?_
      rintro e w2 ⟨rfl, hb2⟩
      rw [HE.out]
      go_wp2
      go_ret2
      exact MeetLeft.no (by unfold meetB; rw [HE.out, Bool.and_false]; rfl) ((Bl.alloc_ (Bl.alloc_ (Bl.refl w) _) _).trans_ (hb1.trans_ hb2))
    | true =>
      have HE := Lib.hid hE
      clear hE
      by_cases hl : n = m
      · have b1 : ((n : Int) != (m : Int)) = false := by simp [hl]
        have HB := Lib.hid (show meetB D E = true from by unfold meetB; rw [HD.out, HE.out, decide_eq_true (by rw [← HN.out, ← HM.out]; exact hl)]; rfl)
        subst hl
        go_enter Try.func55, Try.ntmps55
        go_wp2_with fail
        refine (specSide_any A n c D HN.out x r _ h1 (K1.out.bl (by repeat' (first | exact Bl.refl _ | with_reducible assumption | with_reducible refine Bl.drew_ ?_ | with_reducible refine Bl.drewN_ ?_ _ | with_reducible refine Bl.alloc_ ?_ _ | with_reducible refine Bl.trans_ ?_ (by assumption) | with_reducible refine Bl.trans_ ?_ (And.left (by assumption)))))).mono ?_
        rintro e w1 ⟨rfl, hb1⟩
        rw [HD.out]
        obtain ⟨a0, a1, a2, z0, z1, z2⟩ := Q3.out _ hb1
        go_wp2_with fail
        refine (specSide_any B n c' E HM.out y r' _ h2 (K2.out.bl ((Bl.alloc_ (Bl.alloc_ (Bl.refl w) _) _).trans_ hb1))).mono ?_
        rintro e w2 ⟨rfl, hb2⟩
        rw [HE.out]
        have hb12 := hb1.trans_ hb2
        clear a0 a1 a2 z0 z1 z2
        obtain ⟨a0, a1, a2, z0, z1, z2⟩ := Q3.out _ hb12
        have hbw : Bl w w2 := (Bl.alloc_ (Bl.alloc_ (Bl.refl w) _) _).trans_ hb12
        go_wp2_with fail
        refine (l4Meet_any A B n c c' D E HN.out HM.out x y r r' _ HD.out HE.out (K1.out.bl hbw) (K2.out.bl hbw)).mono ?_
        rintro e w3 ⟨rfl, hb3⟩
        go_wp2
        go_ret2
        exact ⟨by unfold meetP; rw [if_pos HB.out]; rfl, hbw.trans_ hb3⟩
      · have b1 : ((n : Int) != (m : Int)) = true := by simp; omega
        have HB := Lib.hid (show meetB D E = false from by unfold meetB; rw [decide_eq_false (by rw [← HN.out, ← HM.out]; exact hl), Bool.and_false])
        go_enter Try.func55, Try.ntmps55
        go_wp2_with fail
        refine (specSide_any A n c D HN.out x r _ h1 (K1.out.bl (by repeat' (first | exact Bl.refl _ | with_reducible assumption | with_reducible refine Bl.drew_ ?_ | with_reducible refine Bl.drewN_ ?_ _ | with_reducible refine Bl.alloc_ ?_ _ | with_reducible refine Bl.trans_ ?_ (by assumption) | with_reducible refine Bl.trans_ ?_ (And.left (by assumption)))))).mono ?_
        rintro e w1 ⟨rfl, hb1⟩
        rw [HD.out]
        obtain ⟨a0, a1, a2, z0, z1, z2⟩ := Q3.out _ hb1
        go_wp2_with fail
        refine (specSide_any B m c' E HM.out y r' _ h2 (K2.out.bl ((Bl.alloc_ (Bl.alloc_ (Bl.refl w) _) _).trans_ hb1))).mono ?_
        rintro e w2 ⟨rfl, hb2⟩
        rw [HE.out]
        have hb12 := hb1.trans_ hb2
        clear a0 a1 a2 z0 z1 z2
        obtain ⟨a0, a1, a2, z0, z1, z2⟩ := Q3.out _ hb12
        have hbw : Bl w w2 := (Bl.alloc_ (Bl.alloc_ (Bl.refl w) _) _).trans_ hb12
        go_wp2
        go_ret2
        exact MeetLeft.no HB.out hbw

set_option maxRecDepth 100000 in
set_option maxHeartbeats 4000000 in
theorem meetingPlace_any (A B : Option Addr) (n c c' : Nat) (D E : List Int) (hn : n = D.length) (hm : n = E.length) (hD : sideB D = true) (hE : sideB E = true) (w : World) (H1 : IntsAt w w.heap.size A D) (H2 : IntsAt w w.heap.size B E) :
    Calls Try.prog 104 #[.slice A n c, .slice B n c'] w fun e w' => e = .returned (.tuple #[.int .i64 (meetSt D E n).1, .int .i64 (meetSt D E n).2]) ∧ Bl w w' := by
  have K1 := Lib.hid H1
  have K2 := Lib.hid H2
  have HN := Lib.hid hn
  have HM := Lib.hid hm
  have HD := Lib.hid hD
  have HE := Lib.hid hE
  have h24 : n ≤ 24 := by have := sideB_len hD; omega
  clear H1 H2 hn hm hD hE
  go_enter Try.func104, Try.ntmps104
  go_wp2_with fail
  go_loopw [6, 7, 13] (fun b a i wr => ∃ k : Nat, k ≤ n ∧ i = .int .i64 k ∧ b = .int .i64 (meetSt D E k).1 ∧ a = .int .i64 (meetSt D E k).2 ∧ Bl w wr) (fun _ _ i _ => n - (intOf i).toNat)
  case atStart => exact ⟨0, by omega, rfl, rfl, rfl, Bl.refl _⟩
  case round =>
    obtain ⟨k, hk, rfl, rfl, rfl, hbl⟩ := hrel
    have hbw : Bl w wr := hbl
    obtain ⟨best, at', hst⟩ : ∃ b a, meetSt D E k = (b, a) := ⟨_, _, rfl⟩
    rw [hst]
    have HST := Lib.hid hst
    have ST := Lib.hid (show meetSt D E (k + 1) = mStep (best, at') (dAt D k) (dAt E k) k from by rw [← hst]; rfl)
    clear hst
    dsimp only
    by_cases hlt : k < n
    · have hkl : k < D.length := by have := HN.out; omega
      have hkl' : k < E.length := by have := HM.out; omega
      obtain ⟨g1, o1, rfl, hg1, hc1⟩ := K1.out.cell (by omega)
      obtain ⟨g2, o2, rfl, hg2, hc2⟩ := K2.out.cell (by omega)
      have p1 := hc1 k hkl
      have p2 := hc2 k hkl'
      rw [← (bcell hbw).1 _ _ hg1] at p1
      rw [← (bcell hbw).1 _ _ hg2] at p2
      clear hc1 hc2
      have d0 := sideB_at HD.out hkl
      have e0 := sideB_at HE.out hkl'
      have hda := dAt_at hkl
      have hea := dAt_at hkl'
      generalize D[k] = d at p1 d0 hda
      generalize E[k] = e at p2 e0 hea
      rw [hda, hea] at ST
      clear hda hea
      have i0 : (0 : Int) ≤ (k : Int) := by omega
      have i1 : (k : Int) < (n : Int) := by omega
      have a1 : IntKind.i64.wrap (d + e) = d + e := IntWalk.i64_in _ (by omega)
      by_cases h1 : d < 0
      · have b1 : decide (0 ≤ d) = false := by simp; omega
        go_wp2
        go_roundw
        case rel => exact ⟨k + 1, by omega, by go_num, by rw [ST.out, mStep_no (by dsimp only; omega)], by rw [ST.out, mStep_no (by dsimp only; omega)], hbl⟩
        case measure => simp [intOf]; omega
      · have b1 : decide (0 ≤ d) = true := by simp; omega
        by_cases h2 : e < 0
        · have b2 : decide (0 ≤ e) = false := by simp; omega
          go_wp2
          go_roundw
          case rel => exact ⟨k + 1, by omega, by go_num, by rw [ST.out, mStep_no (by dsimp only; omega)], by rw [ST.out, mStep_no (by dsimp only; omega)], hbl⟩
          case measure => simp [intOf]; omega
        · have b2 : decide (0 ≤ e) = true := by simp; omega
          by_cases h3 : best < 0
          · have b3 : decide (best < 0) = true := by simpa using h3
            go_wp2
            go_roundw
            case rel => exact ⟨k + 1, by omega, by go_num, by rw [ST.out, mStep_yes (by dsimp only; omega)], by rw [ST.out, mStep_yes (by dsimp only; omega)], (by repeat' (first | exact Bl.refl _ | with_reducible assumption | with_reducible refine Bl.drew_ ?_ | with_reducible refine Bl.drewN_ ?_ _ | with_reducible refine Bl.alloc_ ?_ _ | with_reducible refine Bl.trans_ ?_ (by assumption) | with_reducible refine Bl.trans_ ?_ (And.left (by assumption))))⟩
            case measure => simp [intOf]; omega
          · have b3 : decide (best < 0) = false := by simpa using h3
            by_cases h4 : d + e < best
            · have b4 : decide (d + e < best) = true := by simpa using h4
              go_wp2
              go_roundw
              case rel => exact ⟨k + 1, by omega, by go_num, by rw [ST.out, mStep_yes (by dsimp only; omega)], by rw [ST.out, mStep_yes (by dsimp only; omega)], (by repeat' (first | exact Bl.refl _ | with_reducible assumption | with_reducible refine Bl.drew_ ?_ | with_reducible refine Bl.drewN_ ?_ _ | with_reducible refine Bl.alloc_ ?_ _ | with_reducible refine Bl.trans_ ?_ (by assumption) | with_reducible refine Bl.trans_ ?_ (And.left (by assumption))))⟩
              case measure => simp [intOf]; omega
            · have b4 : decide (d + e < best) = false := by simpa using h4
              go_wp2
              go_roundw
              case rel => exact ⟨k + 1, by omega, by go_num, by rw [ST.out, mStep_no (by dsimp only; omega)], by rw [ST.out, mStep_no (by dsimp only; omega)], (by repeat' (first | exact Bl.refl _ | with_reducible assumption | with_reducible refine Bl.drew_ ?_ | with_reducible refine Bl.drewN_ ?_ _ | with_reducible refine Bl.alloc_ ?_ _ | with_reducible refine Bl.trans_ ?_ (by assumption) | with_reducible refine Bl.trans_ ?_ (And.left (by assumption))))⟩
              case measure => simp [intOf]; omega
    · obtain rfl : k = n := by omega
      go_wp2
      go_ret2
      exact ⟨by rw [HST.out]; rfl, hbw⟩

set_option maxRecDepth 100000 in
set_option maxHeartbeats 4000000 in
theorem implMeet_any (A B : Option Addr) (n c m c' : Nat) (D E : List Int) (hn : n = D.length) (hm : m = E.length) (x y : Value) (r r' : Int) (w : World) (h1 : n ≤ 9223372036854775807) (h2 : m ≤ 9223372036854775807) (H1 : IntsAt w w.heap.size A D) (H2 : IntsAt w w.heap.size B E) :
    Calls Try.prog 57 #[.agg #[.slice A n c, x, .int .i64 r], .agg #[.slice B m c', y, .int .i64 r']] w (MeetLeft D E w) := by
  have K1 := Lib.hid H1
  have K2 := Lib.hid H2
  have HN := Lib.hid hn
  have HM := Lib.hid hm
  clear H1 H2 hn hm
  have q3 : ∀ wx, Bl ((w.alloc (.cells #[.slice A n c, x, .int .i64 r] 63)).alloc (.cells #[.slice B m c', y, .int .i64 r'] 63)) wx → wx.cell? ⟨w.heap.size, 0, none⟩ = some (.slice A n c) ∧ wx.cell? ⟨w.heap.size + 1, 0, none⟩ = some (.slice B m c') := fun wx hb => by
    obtain ⟨a0, a1, a2⟩ := box3 ((Bl.alloc_ (Bl.refl (w.alloc (.cells #[.slice A n c, x, .int .i64 r] 63))) _).trans_ hb)
    obtain ⟨z0, z1, z2⟩ := box3 hb
    simp only [World.size_alloc] at z0 z1 z2
    exact ⟨a0, z0⟩
  have Q3 := Lib.hid q3
  clear q3
  by_cases hl : n = m
  · have b1 : ((n : Int) != (m : Int)) = false := by simp [hl]
    subst hl
    cases hD : sideB D with
    | false =>
      have HD := Lib.hid hD
      clear hD
      go_enter Try.func57, Try.ntmps57
      go_wp2_with fail
      refine (distsOk_any A n c D HN.out _ h1 (K1.out.bl (by repeat' (first | exact Bl.refl _ | with_reducible assumption | with_reducible refine Bl.drew_ ?_ | with_reducible refine Bl.drewN_ ?_ _ | with_reducible refine Bl.alloc_ ?_ _ | with_reducible refine Bl.trans_ ?_ (by assumption) | with_reducible refine Bl.trans_ ?_ (And.left (by assumption)))))).mono ?_
      rintro e w1 ⟨rfl, hb1⟩
      rw [HD.out]
      go_wp2
      go_ret2
      exact MeetLeft.no (by unfold meetB; rw [HD.out]; rfl) ((Bl.alloc_ (Bl.alloc_ (Bl.refl w) _) _).trans_ hb1)
    | true =>
      have HD := Lib.hid hD
      clear hD
      cases hE : sideB E with
      | false =>
        have HE := Lib.hid hE
        clear hE
        go_enter Try.func57, Try.ntmps57
        go_wp2_with fail
        refine (distsOk_any A n c D HN.out _ h1 (K1.out.bl (by repeat' (first | exact Bl.refl _ | with_reducible assumption | with_reducible refine Bl.drew_ ?_ | with_reducible refine Bl.drewN_ ?_ _ | with_reducible refine Bl.alloc_ ?_ _ | with_reducible refine Bl.trans_ ?_ (by assumption) | with_reducible refine Bl.trans_ ?_ (And.left (by assumption)))))).mono ?_
        rintro e w1 ⟨rfl, hb1⟩
        rw [HD.out]
        obtain ⟨a0, z0⟩ := Q3.out _ hb1
        go_wp2_with fail
        refine (distsOk_any B n c' E HM.out _ h2 (K2.out.bl ((Bl.alloc_ (Bl.alloc_ (Bl.refl w) _) _).trans_ hb1))).mono ?_
        rintro e w2 ⟨rfl, hb2⟩
        rw [HE.out]
        go_wp2
        go_ret2
        exact MeetLeft.no (by unfold meetB; rw [HE.out, Bool.and_false]; rfl) ((Bl.alloc_ (Bl.alloc_ (Bl.refl w) _) _).trans_ (hb1.trans_ hb2))
      | true =>
        have HE := Lib.hid hE
        clear hE
        have HB := Lib.hid (show meetB D E = true from by unfold meetB; rw [HD.out, HE.out, decide_eq_true (by rw [← HN.out, ← HM.out])]; rfl)
        have h24 : n ≤ 24 := by have := sideB_len HD.out; have := HN.out; omega
        go_enter Try.func57, Try.ntmps57
        go_wp2_with fail
        refine (distsOk_any A n c D HN.out _ h1 (K1.out.bl (by repeat' (first | exact Bl.refl _ | with_reducible assumption | with_reducible refine Bl.drew_ ?_ | with_reducible refine Bl.drewN_ ?_ _ | with_reducible refine Bl.alloc_ ?_ _ | with_reducible refine Bl.trans_ ?_ (by assumption) | with_reducible refine Bl.trans_ ?_ (And.left (by assumption)))))).mono ?_
        rintro e w1 ⟨rfl, hb1⟩
        rw [HD.out]
        obtain ⟨a0, z0⟩ := Q3.out _ hb1
        go_wp2_with fail
        refine (distsOk_any B n c' E HM.out _ h2 (K2.out.bl ((Bl.alloc_ (Bl.alloc_ (Bl.refl w) _) _).trans_ hb1))).mono ?_
        rintro e w2 ⟨rfl, hb2⟩
        rw [HE.out]
        have hb12 := hb1.trans_ hb2
        clear a0 z0
        obtain ⟨a0, z0⟩ := Q3.out _ hb12
        have HB12 := Lib.hid hb12
        clear hb1 hb2 hb12
        go_wp2_with fail
        refine (meetingPlace_any A B n c c' D E HN.out HM.out HD.out HE.out _ (K1.out.bl ((Bl.alloc_ (Bl.alloc_ (Bl.refl w) _) _).trans_ HB12.out)) (K2.out.bl ((Bl.alloc_ (Bl.alloc_ (Bl.refl w) _) _).trans_ HB12.out))).mono ?_
        rintro e w3 ⟨rfl, hb3⟩
        go_wp2
        go_ret2
        exact ⟨by unfold meetP; rw [if_pos HB.out, ← HN.out]; rfl, ((Bl.alloc_ (Bl.alloc_ (Bl.refl w) _) _).trans_ HB12.out).trans_ hb3⟩
  · have b1 : ((n : Int) != (m : Int)) = true := by simp; omega
    have HB := Lib.hid (show meetB D E = false from by unfold meetB; rw [decide_eq_false (by rw [← HN.out, ← HM.out]; exact hl), Bool.and_false])
    go_enter Try.func57, Try.ntmps57
    go_wp2
    go_ret2
    exact MeetLeft.no HB.out (by repeat' (first | exact Bl.refl _ | with_reducible assumption | with_reducible refine Bl.drew_ ?_ | with_reducible refine Bl.drewN_ ?_ _ | with_reducible refine Bl.alloc_ ?_ _ | with_reducible refine Bl.trans_ ?_ (by assumption) | with_reducible refine Bl.trans_ ?_ (And.left (by assumption))))

end Go.Proofs.Ytmdmbobjdhjadaa
