/-
  What is proved here: the document's and the program's small questions about names, places and ops. No conditions beyond those that each theorem states.
-/
import Derived.Test.YtipmjgciaalmbaaDKA
set_option linter.unusedSimpArgs false
set_option linter.unusedVariables false
namespace Go.Proofs.Ytipmjgciaalmbaa
open Go.RowKit

set_option maxHeartbeats 400000 in
theorem l15Name_any (s : ByteArray) (w : World) :
    Calls Try.prog 93 #[.string s] w fun e w' => e = .returned (.bool (nameB s)) ∧ w = w' := by
  by_cases h1 : (1 : Int) ≤ (s.size : Int)
  · by_cases h2 : (s.size : Int) ≤ 100
    · go_enter Try.func93, Try.ntmps93
      go_wp2
      go_ret
      exact ⟨ret_bool (by simp [nameB]; omega), rfl⟩
    · go_enter Try.func93, Try.ntmps93
      go_wp2
      go_ret
      exact ⟨ret_bool (by simp [nameB]; omega), rfl⟩
  · go_enter Try.func93, Try.ntmps93
    go_wp2
    go_ret
    exact ⟨ret_bool (by simp [nameB]; omega), rfl⟩
set_option maxHeartbeats 400000 in
theorem nameOk_any (s : ByteArray) (w : World) :
    Calls Try.prog 97 #[.string s] w fun e w' => e = .returned (.bool (nameB s)) ∧ w = w' := by
  by_cases h1 : (1 : Int) ≤ (s.size : Int)
  · by_cases h2 : (s.size : Int) ≤ 100
    · go_enter Try.func97, Try.ntmps97
      go_wp2
      go_ret
      exact ⟨ret_bool (by simp [nameB]; omega), rfl⟩
    · go_enter Try.func97, Try.ntmps97
      go_wp2
      go_ret
      exact ⟨ret_bool (by simp [nameB]; omega), rfl⟩
  · go_enter Try.func97, Try.ntmps97
    go_wp2
    go_ret
    exact ⟨ret_bool (by simp [nameB]; omega), rfl⟩
set_option maxHeartbeats 400000 in
theorem l1InD_any (n lo hi : Int) (w : World) :
    Calls Try.prog 70 #[.int .i64 n, .int .i64 lo, .int .i64 hi] w fun e w' => e = .returned (.bool (decide (lo ≤ n) && decide (n ≤ hi))) ∧ w = w' := by
  by_cases h1 : lo ≤ n
  · by_cases h2 : n ≤ hi
    · go_enter Try.func70, Try.ntmps70
      go_wp2
      go_ret
      exact ⟨ret_bool (by simp; omega), rfl⟩
    · go_enter Try.func70, Try.ntmps70
      go_wp2
      go_ret
      exact ⟨ret_bool (by simp; omega), rfl⟩
  · go_enter Try.func70, Try.ntmps70
    go_wp2
    go_ret
    exact ⟨ret_bool (by simp; omega), rfl⟩

/-- Where the file of that name is; -1: nowhere. -/
def AtI (L : List Fl) (nm : ByteArray) (i : Int) : Prop :=
  (∃ k : Nat, i = (k : Int) ∧ ∃ hk : k < L.length, L[k].1 = nm ∧ dataL L nm = L[k].2 ∧ hasL L nm = true) ∨ (i = -1 ∧ hasL L nm = false)
set_option maxHeartbeats 1000000 in
theorem l15At_any (A : Option Addr) (n c : Nat) (L : List Fl) (hn : n = L.length) (nm : ByteArray) (w : World) (hm : n ≤ 1048576) (H1 : FilesAt w w.heap.size A L) :
    Calls Try.prog 61 #[.slice A n c, .string nm] w fun e w' => (∃ i : Int, e = .returned (.int .i64 i) ∧ AtI L nm i) ∧ Bl w w' := by
  have K1 := Lib.hid H1
  have HN := Lib.hid hn
  clear H1 hn
  go_enter Try.func61, Try.ntmps61
  go_wp2
  go_loopw [5] (fun i wr => ∃ k : Nat, k ≤ n ∧ i = .int .i64 k ∧ Hid (∀ j (hj : j < L.length), j < k → sameB L[j].1 nm = false) ∧ Bl w wr) (fun i _ => n - (intOf i).toNat)
  case atStart => exact ⟨0, by omega, rfl, Lib.hid (fun j _ h => absurd h (by omega)), Bl.refl w⟩
  case round =>
    obtain ⟨k, hk, rfl, HO, hbl⟩ := hrel
    by_cases hlt : k < n
    · have hkl : k < L.length := by have := HN.out; omega
      obtain ⟨g1, o1, rfl, hg1, hc1⟩ := K1.out.cell (by omega)
      obtain ⟨p1, p2⟩ := hc1 k hkl
      rw [← (bcell hbl).1 _ _ hg1] at p1
      clear hc1 p2
      obtain ⟨x, hx⟩ : ∃ x, x = L[k].1 := ⟨_, rfl⟩
      rw [← hx] at p1
      have HX := Lib.hid hx
      clear hx
      by_cases e : sameB x nm = true
      · have e' : (x.toList == nm.toList) = true := e
        have E := Lib.hid e
        clear e
        go_wp2
        go_ret
        refine ⟨⟨k, rfl, .inl ⟨k, rfl, hkl, ?_, ?_, ?_⟩⟩, hbl⟩
        · rw [← HX.out]; exact (sameB_iff _ _).1 E.out
        · exact data_at hkl (by rw [← HX.out]; exact E.out) fun j hj => HO.out j (by omega) hj
        · exact has_of_at hkl (by rw [← HX.out]; exact E.out)
      · have e0 : sameB x nm = false := by simpa using e
        have e' : (x.toList == nm.toList) = false := e0
        have E := Lib.hid e0
        clear e e0
        go_wp2
        go_roundw
        case rel =>
          refine ⟨k + 1, by omega, by go_num, Lib.hid fun j hj h => ?_, hbl⟩
          rcases Nat.lt_or_ge j k with h' | h'
          · exact HO.out j hj h'
          · obtain rfl : j = k := by omega
            rw [← HX.out]; exact E.out
        case measure => simp [intOf]; omega
    · go_wp2
      go_ret
      exact ⟨⟨-1, rfl, .inr ⟨rfl, has_none fun j hj => HO.out j hj (by have := HN.out; omega)⟩⟩, hbl⟩

set_option maxHeartbeats 1000000 in
theorem l15Form_any (o : Dp) (w : World) :
    Calls Try.prog 49 #[.agg #[.int .i64 o.kind, .string o.name, .string o.to, .string o.data]] w fun e w' => e = .returned (.bool (formB o)) ∧ Bl w w' := by
  obtain ⟨q, a, b, c⟩ := o
  have HF := Lib.hid (show formB ⟨q, a, b, c⟩ = (decide (1 ≤ q) && decide (q ≤ 3) && nameB a && (if q = 2 then nameB b && emptyB c else emptyB b && (decide (q = 1) || emptyB c))) from rfl)
  by_cases h1 : (decide (1 ≤ q) && decide (q ≤ 3)) = true
  · have H1 := Lib.hid h1
    by_cases h2 : nameB a = true
    · by_cases h3 : q = 2
      · subst h3
        by_cases h4 : nameB b = true
        · have HE := Lib.hid (show c.toList.isEmpty = emptyB c from rfl)
          go_enter Try.func49, Try.ntmps49
          go_wp2_with fail
          refine (l1InD_any _ _ _ _).mono ?_
          rintro e w1 ⟨rfl, rfl⟩
          rw [H1.out]
          go_wp2_with fail
          refine (l15Name_any _ _).mono ?_
          rintro e w1 ⟨rfl, rfl⟩
          rw [h2]
          go_wp2_with fail
          refine (l15Name_any _ _).mono ?_
          rintro e w1 ⟨rfl, rfl⟩
          rw [h4]
          go_wp2
          go_ret
          exact ⟨ret_bool (by rw [HF.out, h2, ← HE.out]; simp [h4]), (by repeat' (first | exact Bl.refl _ | with_reducible assumption | with_reducible refine Bl.drew_ ?_ | with_reducible refine Bl.drewN_ ?_ _ | with_reducible refine Bl.alloc_ ?_ _ | with_reducible refine Bl.trans_ ?_ (by assumption) | with_reducible refine Bl.trans_ ?_ (And.left (by assumption))))⟩
        · have h4' : nameB b = false := by simpa using h4
          go_enter Try.func49, Try.ntmps49
          go_wp2_with fail
          refine (l1InD_any _ _ _ _).mono ?_
          rintro e w1 ⟨rfl, rfl⟩
          rw [H1.out]
          go_wp2_with fail
          refine (l15Name_any _ _).mono ?_
          rintro e w1 ⟨rfl, rfl⟩
          rw [h2]
          go_wp2_with fail
          refine (l15Name_any _ _).mono ?_
          rintro e w1 ⟨rfl, rfl⟩
          rw [h4']
          go_wp2
          go_ret
          exact ⟨ret_bool (by rw [HF.out, h2]; simp [h4']), (by repeat' (first | exact Bl.refl _ | with_reducible assumption | with_reducible refine Bl.drew_ ?_ | with_reducible refine Bl.drewN_ ?_ _ | with_reducible refine Bl.alloc_ ?_ _ | with_reducible refine Bl.trans_ ?_ (by assumption) | with_reducible refine Bl.trans_ ?_ (And.left (by assumption))))⟩
      · by_cases h5 : emptyB b = true
        · have h5' : b.toList.isEmpty = true := h5
          by_cases h6 : q = 1
          · subst h6
            go_enter Try.func49, Try.ntmps49
            go_wp2_with fail
            refine (l1InD_any _ _ _ _).mono ?_
            rintro e w1 ⟨rfl, rfl⟩
            rw [H1.out]
            go_wp2_with fail
            refine (l15Name_any _ _).mono ?_
            rintro e w1 ⟨rfl, rfl⟩
            rw [h2]
            go_wp2
            go_ret
            exact ⟨ret_bool (by rw [HF.out, h2]; simp [h5]), (by repeat' (first | exact Bl.refl _ | with_reducible assumption | with_reducible refine Bl.drew_ ?_ | with_reducible refine Bl.drewN_ ?_ _ | with_reducible refine Bl.alloc_ ?_ _ | with_reducible refine Bl.trans_ ?_ (by assumption) | with_reducible refine Bl.trans_ ?_ (And.left (by assumption))))⟩
          · have HE := Lib.hid (show c.toList.isEmpty = emptyB c from rfl)
            go_enter Try.func49, Try.ntmps49
            go_wp2_with fail
            refine (l1InD_any _ _ _ _).mono ?_
            rintro e w1 ⟨rfl, rfl⟩
            rw [H1.out]
            go_wp2_with fail
            refine (l15Name_any _ _).mono ?_
            rintro e w1 ⟨rfl, rfl⟩
            rw [h2]
            go_wp2
            go_ret
            exact ⟨ret_bool (by rw [HF.out, H1.out, h2, if_neg h3, h5, decide_eq_false h6, ← HE.out, show (q == 1) = false from by simpa using h6]; rfl), (by repeat' (first | exact Bl.refl _ | with_reducible assumption | with_reducible refine Bl.drew_ ?_ | with_reducible refine Bl.drewN_ ?_ _ | with_reducible refine Bl.alloc_ ?_ _ | with_reducible refine Bl.trans_ ?_ (by assumption) | with_reducible refine Bl.trans_ ?_ (And.left (by assumption))))⟩
        · have h5a : emptyB b = false := by simpa using h5
          have h5' : b.toList.isEmpty = false := h5a
          clear h5
          go_enter Try.func49, Try.ntmps49
          go_wp2_with fail
          refine (l1InD_any _ _ _ _).mono ?_
          rintro e w1 ⟨rfl, rfl⟩
          rw [H1.out]
          go_wp2_with fail
          refine (l15Name_any _ _).mono ?_
          rintro e w1 ⟨rfl, rfl⟩
          rw [h2]
          go_wp2
          go_ret
          exact ⟨ret_bool (by rw [HF.out, H1.out, h2, if_neg h3, h5a]; rfl), (by repeat' (first | exact Bl.refl _ | with_reducible assumption | with_reducible refine Bl.drew_ ?_ | with_reducible refine Bl.drewN_ ?_ _ | with_reducible refine Bl.alloc_ ?_ _ | with_reducible refine Bl.trans_ ?_ (by assumption) | with_reducible refine Bl.trans_ ?_ (And.left (by assumption))))⟩
    · have h2' : nameB a = false := by simpa using h2
      go_enter Try.func49, Try.ntmps49
      go_wp2_with fail
      refine (l1InD_any _ _ _ _).mono ?_
      rintro e w1 ⟨rfl, rfl⟩
      rw [H1.out]
      go_wp2_with fail
      refine (l15Name_any _ _).mono ?_
      rintro e w1 ⟨rfl, rfl⟩
      rw [h2']
      go_wp2
      go_ret
      exact ⟨ret_bool (by rw [HF.out, H1.out, h2']; rfl), (by repeat' (first | exact Bl.refl _ | with_reducible assumption | with_reducible refine Bl.drew_ ?_ | with_reducible refine Bl.drewN_ ?_ _ | with_reducible refine Bl.alloc_ ?_ _ | with_reducible refine Bl.trans_ ?_ (by assumption) | with_reducible refine Bl.trans_ ?_ (And.left (by assumption))))⟩
  · have h1' : (decide (1 ≤ q) && decide (q ≤ 3)) = false := by simpa using h1
    have H1 := Lib.hid h1'
    clear h1 h1'
    go_enter Try.func49, Try.ntmps49
    go_wp2_with fail
    refine (l1InD_any _ _ _ _).mono ?_
    rintro e w1 ⟨rfl, rfl⟩
    rw [H1.out]
    go_wp2
    go_ret
    exact ⟨ret_bool (by rw [HF.out, H1.out]; rfl), (by repeat' (first | exact Bl.refl _ | with_reducible assumption | with_reducible refine Bl.drew_ ?_ | with_reducible refine Bl.drewN_ ?_ _ | with_reducible refine Bl.alloc_ ?_ _ | with_reducible refine Bl.trans_ ?_ (by assumption) | with_reducible refine Bl.trans_ ?_ (And.left (by assumption))))⟩

end Go.Proofs.Ytipmjgciaalmbaa
