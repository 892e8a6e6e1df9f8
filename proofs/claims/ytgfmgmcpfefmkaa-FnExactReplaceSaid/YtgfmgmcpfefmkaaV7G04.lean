/-
  What is proved here: the document's and the program's small questions about names, places and ops; the document's way of putting a file among others, and of taking one out; contracts of the laws' small functions on disks: sizes, copies, one held against another; a disk that comes in is copied. No conditions beyond those that each theorem states.
-/
import Derived.Test.YtgfmgmcpfefmkaaV7G03
set_option linter.unusedSimpArgs false
set_option linter.unusedVariables false
namespace Go.Proofs.Ytgfmgmcpfefmkaa
open Go.RowKit

set_option maxHeartbeats 400000 in
theorem l15Name_any (s : ByteArray) (w : World) :
    Calls Try.prog 73 #[.string s] w fun e w' => e = .returned (.bool (nameB s)) ∧ w = w' := by
  by_cases h1 : (1 : Int) ≤ (s.size : Int)
  · by_cases h2 : (s.size : Int) ≤ 100
    · go_enter Try.func73, Try.ntmps73
      go_wp2
      go_ret
      exact ⟨ret_bool (by simp [nameB]; omega), rfl⟩
    · go_enter Try.func73, Try.ntmps73
      go_wp2
      go_ret
      exact ⟨ret_bool (by simp [nameB]; omega), rfl⟩
  · go_enter Try.func73, Try.ntmps73
    go_wp2
    go_ret
    exact ⟨ret_bool (by simp [nameB]; omega), rfl⟩
set_option maxHeartbeats 400000 in
theorem nameOk_any (s : ByteArray) (w : World) :
    Calls Try.prog 76 #[.string s] w fun e w' => e = .returned (.bool (nameB s)) ∧ w = w' := by
  by_cases h1 : (1 : Int) ≤ (s.size : Int)
  · by_cases h2 : (s.size : Int) ≤ 100
    · go_enter Try.func76, Try.ntmps76
      go_wp2
      go_ret
      exact ⟨ret_bool (by simp [nameB]; omega), rfl⟩
    · go_enter Try.func76, Try.ntmps76
      go_wp2
      go_ret
      exact ⟨ret_bool (by simp [nameB]; omega), rfl⟩
  · go_enter Try.func76, Try.ntmps76
    go_wp2
    go_ret
    exact ⟨ret_bool (by simp [nameB]; omega), rfl⟩
set_option maxHeartbeats 400000 in
theorem l1InD_any (n lo hi : Int) (w : World) :
    Calls Try.prog 33 #[.int .i64 n, .int .i64 lo, .int .i64 hi] w fun e w' => e = .returned (.bool (decide (lo ≤ n) && decide (n ≤ hi))) ∧ w = w' := by
  by_cases h1 : lo ≤ n
  · by_cases h2 : n ≤ hi
    · go_enter Try.func33, Try.ntmps33
      go_wp2
      go_ret
      exact ⟨ret_bool (by simp; omega), rfl⟩
    · go_enter Try.func33, Try.ntmps33
      go_wp2
      go_ret
      exact ⟨ret_bool (by simp; omega), rfl⟩
  · go_enter Try.func33, Try.ntmps33
    go_wp2
    go_ret
    exact ⟨ret_bool (by simp; omega), rfl⟩

/-- Where the file of that name is; -1: nowhere. -/
def AtI (L : List Fl) (nm : ByteArray) (i : Int) : Prop :=
  (∃ k : Nat, i = (k : Int) ∧ ∃ hk : k < L.length, L[k].1 = nm ∧ dataL L nm = L[k].2 ∧ hasL L nm = true) ∨ (i = -1 ∧ hasL L nm = false)
set_option maxHeartbeats 1000000 in
theorem l15At_any (A : Option Addr) (n c : Nat) (L : List Fl) (hn : n = L.length) (nm : ByteArray) (w : World) (hm : n ≤ 1048576) (H1 : FilesAt w w.heap.size A L) :
    Calls Try.prog 50 #[.slice A n c, .string nm] w fun e w' => (∃ i : Int, e = .returned (.int .i64 i) ∧ AtI L nm i) ∧ Bl w w' := by
  have K1 := Lib.hid H1
  have HN := Lib.hid hn
  clear H1 hn
  go_enter Try.func50, Try.ntmps50
  go_wp2
  go_loopw [5] (fun i wr => ∃ k : Nat, k ≤ n ∧ i = .int .i64 k ∧ Hid (∀ j (hj : j < L.length), j < k → sameB L[j].1 nm = false) ∧ Bl w wr) (fun i _ => n - (intOf i).toNat)
  case atStart => exact ⟨0, by omega, rfl, Lib.hid (fun j _ h => absurd h (by omega)), Bl.refl w⟩
  case round =>
    obtain ⟨k, hk, rfl, HO, hbl⟩ := hrel
    by_cases hlt : k < n
    · have hkl : k < L.length := by have := HN.out; omega
      obtain ⟨g1, o1, rfl, hg1, hc1⟩ := K1.out.cell (by omega)
      obtain ⟨p1, p2⟩ := hc1 k hkl
      rw [← (bcell hbl).1 _ _ hg1] at p1
      clear hc1 p2
      obtain ⟨x, hx⟩ : ∃ x, x = L[k].1 := ⟨_, rfl⟩
      rw [← hx] at p1
      have HX := Lib.hid hx
      clear hx
      by_cases e : sameB x nm = true
      · have e' : (x.toList == nm.toList) = true := e
        have E := Lib.hid e
        clear e
        go_wp2
        go_ret
        refine ⟨⟨k, rfl, .inl ⟨k, rfl, hkl, ?_, ?_, ?_⟩⟩, hbl⟩
        · rw [← HX.out]; exact (sameB_iff _ _).1 E.out
        · exact data_at hkl (by rw [← HX.out]; exact E.out) fun j hj => HO.out j (by omega) hj
        · exact has_of_at hkl (by rw [← HX.out]; exact E.out)
      · have e0 : sameB x nm = false := by simpa using e
        have e' : (x.toList == nm.toList) = false := e0
        have E := Lib.hid e0
        clear e e0
        go_wp2
        go_roundw
        case rel =>
          refine ⟨k + 1, by omega, by go_num, Lib.hid fun j hj h => ?_, hbl⟩
          rcases Nat.lt_or_ge j k with h' | h'
          · exact HO.out j hj h'
          · obtain rfl : j = k := by omega
            rw [← HX.out]; exact E.out
        case measure => simp [intOf]; omega
    · go_wp2
      go_ret
      exact ⟨⟨-1, rfl, .inr ⟨rfl, has_none fun j hj => HO.out j hj (by have := HN.out; omega)⟩⟩, hbl⟩

set_option maxHeartbeats 1000000 in
theorem l15Form_any (o : Dp) (w : World) :
    Calls Try.prog 61 #[.agg #[.int .i64 o.kind, .string o.name, .string o.to, .string o.data]] w fun e w' => e = .returned (.bool (formB o)) ∧ Bl w w' := by
  obtain ⟨q, a, b, c⟩ := o
  have HF := Lib.hid (show formB ⟨q, a, b, c⟩ = (decide (1 ≤ q) && decide (q ≤ 3) && nameB a && (if q = 2 then nameB b && emptyB c else emptyB b && (decide (q = 1) || emptyB c))) from rfl)
  by_cases h1 : (decide (1 ≤ q) && decide (q ≤ 3)) = true
  · have H1 := Lib.hid h1
    by_cases h2 : nameB a = true
    · by_cases h3 : q = 2
      · subst h3
        by_cases h4 : nameB b = true
        · have HE := Lib.hid (show c.toList.isEmpty = emptyB c from rfl)
          go_enter Try.func61, Try.ntmps61
          go_wp2_with fail
          refine (l1InD_any _ _ _ _).mono ?_
          rintro e w1 ⟨rfl, rfl⟩
          rw [H1.out]
          go_wp2_with fail
          refine (l15Name_any _ _).mono ?_
          rintro e w1 ⟨rfl, rfl⟩
          rw [h2]
          go_wp2_with fail
          refine (l15Name_any _ _).mono ?_
          rintro e w1 ⟨rfl, rfl⟩
          rw [h4]
          go_wp2
          go_ret
          exact ⟨ret_bool (by rw [HF.out, h2, ← HE.out]; simp [h4]), (by repeat' (first | exact Bl.refl _ | with_reducible assumption | with_reducible refine Bl.drew_ ?_ | with_reducible refine Bl.drewN_ ?_ _ | with_reducible refine Bl.alloc_ ?_ _ | with_reducible refine Bl.trans_ ?_ (by assumption) | with_reducible refine Bl.trans_ ?_ (And.left (by assumption))))⟩
        · have h4' : nameB b = false := by simpa using h4
          go_enter Try.func61, Try.ntmps61
          go_wp2_with fail
          refine (l1InD_any _ _ _ _).mono ?_
          rintro e w1 ⟨rfl, rfl⟩
          rw [H1.out]
          go_wp2_with fail
          refine (l15Name_any _ _).mono ?_
          rintro e w1 ⟨rfl, rfl⟩
          rw [h2]
          go_wp2_with fail
          refine (l15Name_any _ _).mono ?_
          rintro e w1 ⟨rfl, rfl⟩
          rw [h4']
          go_wp2
          go_ret
          exact ⟨ret_bool (by rw [HF.out, h2]; simp [h4']), (by repeat' (first | exact Bl.refl _ | with_reducible assumption | with_reducible refine Bl.drew_ ?_ | with_reducible refine Bl.drewN_ ?_ _ | with_reducible refine Bl.alloc_ ?_ _ | with_reducible refine Bl.trans_ ?_ (by assumption) | with_reducible refine Bl.trans_ ?_ (And.left (by assumption))))⟩
      · by_cases h5 : emptyB b = true
        · have h5' : b.toList.isEmpty = true := h5
          by_cases h6 : q = 1
          · subst h6
            go_enter Try.func61, Try.ntmps61
            go_wp2_with fail
            refine (l1InD_any _ _ _ _).mono ?_
            rintro e w1 ⟨rfl, rfl⟩
            rw [H1.out]
            go_wp2_with fail
            refine (l15Name_any _ _).mono ?_
            rintro e w1 ⟨rfl, rfl⟩
            rw [h2]
            go_wp2
            go_ret
            exact ⟨ret_bool (by rw [HF.out, h2]; simp [h5]), (by repeat' (first | exact Bl.refl _ | with_reducible assumption | with_reducible refine Bl.drew_ ?_ | with_reducible refine Bl.drewN_ ?_ _ | with_reducible refine Bl.alloc_ ?_ _ | with_reducible refine Bl.trans_ ?_ (by assumption) | with_reducible refine Bl.trans_ ?_ (And.left (by assumption))))⟩
          · have HE := Lib.hid (show c.toList.isEmpty = emptyB c from rfl)
            go_enter Try.func61, Try.ntmps61
            go_wp2_with fail
            refine (l1InD_any _ _ _ _).mono ?_
            rintro e w1 ⟨rfl, rfl⟩
            rw [H1.out]
            go_wp2_with fail
            refine (l15Name_any _ _).mono ?_
            rintro e w1 ⟨rfl, rfl⟩
            rw [h2]
            go_wp2
            go_ret
            exact ⟨ret_bool (by rw [HF.out, H1.out, h2, if_neg h3, h5, decide_eq_false h6, ← HE.out, show (q == 1) = false from by simpa using h6]; rfl), (by repeat' (first | exact Bl.refl _ | with_reducible assumption | with_reducible refine Bl.drew_ ?_ | with_reducible refine Bl.drewN_ ?_ _ | with_reducible refine Bl.alloc_ ?_ _ | with_reducible refine Bl.trans_ ?_ (by assumption) | with_reducible refine Bl.trans_ ?_ (And.left (by assumption))))⟩
        · have h5a : emptyB b = false := by simpa using h5
          have h5' : b.toList.isEmpty = false := h5a
          clear h5
          go_enter Try.func61, Try.ntmps61
          go_wp2_with fail
          refine (l1InD_any _ _ _ _).mono ?_
          rintro e w1 ⟨rfl, rfl⟩
          rw [H1.out]
          go_wp2_with fail
          refine (l15Name_any _ _).mono ?_
          rintro e w1 ⟨rfl, rfl⟩
          rw [h2]
          go_wp2
          go_ret
          exact ⟨ret_bool (by rw [HF.out, H1.out, h2, if_neg h3, h5a]; rfl), (by repeat' (first | exact Bl.refl _ | with_reducible assumption | with_reducible refine Bl.drew_ ?_ | with_reducible refine Bl.drewN_ ?_ _ | with_reducible refine Bl.alloc_ ?_ _ | with_reducible refine Bl.trans_ ?_ (by assumption) | with_reducible refine Bl.trans_ ?_ (And.left (by assumption))))⟩
    · have h2' : nameB a = false := by simpa using h2
      go_enter Try.func61, Try.ntmps61
      go_wp2_with fail
      refine (l1InD_any _ _ _ _).mono ?_
      rintro e w1 ⟨rfl, rfl⟩
      rw [H1.out]
      go_wp2_with fail
      refine (l15Name_any _ _).mono ?_
      rintro e w1 ⟨rfl, rfl⟩
      rw [h2']
      go_wp2
      go_ret
      exact ⟨ret_bool (by rw [HF.out, H1.out, h2']; rfl), (by repeat' (first | exact Bl.refl _ | with_reducible assumption | with_reducible refine Bl.drew_ ?_ | with_reducible refine Bl.drewN_ ?_ _ | with_reducible refine Bl.alloc_ ?_ _ | with_reducible refine Bl.trans_ ?_ (by assumption) | with_reducible refine Bl.trans_ ?_ (And.left (by assumption))))⟩
  · have h1' : (decide (1 ≤ q) && decide (q ≤ 3)) = false := by simpa using h1
    have H1 := Lib.hid h1'
    clear h1 h1'
    go_enter Try.func61, Try.ntmps61
    go_wp2_with fail
    refine (l1InD_any _ _ _ _).mono ?_
    rintro e w1 ⟨rfl, rfl⟩
    rw [H1.out]
    go_wp2
    go_ret
    exact ⟨ret_bool (by rw [HF.out, H1.out]; rfl), (by repeat' (first | exact Bl.refl _ | with_reducible assumption | with_reducible refine Bl.drew_ ?_ | with_reducible refine Bl.drewN_ ?_ _ | with_reducible refine Bl.alloc_ ?_ _ | with_reducible refine Bl.trans_ ?_ (by assumption) | with_reducible refine Bl.trans_ ?_ (And.left (by assumption))))⟩

end Go.Proofs.Ytgfmgmcpfefmkaa

set_option linter.unusedSimpArgs false
set_option linter.unusedVariables false
namespace Go.Proofs.Ytgfmgmcpfefmkaa
open Go.RowKit

theorem cut_drop (nm : ByteArray) (L : List Fl) (k : Nat) (hk : k < L.length) : cutL (L.drop k) nm = (if sameB L[k].1 nm then [] else [L[k]]) ++ cutL (L.drop (k + 1)) nm := by
  rw [List.drop_eq_getElem_cons hk]
  unfold cutL
  rw [List.filter_cons]
  cases h : sameB L[k].1 nm <;> simp
theorem putK_drop (nm d : ByteArray) (L : List Fl) (k : Nat) (hk : k < L.length) (b : Bool) :
    putK nm d (L.drop k) b = (if !b && !lessB L[k].1 nm then [(nm, d)] else []) ++ (if sameB L[k].1 nm then [] else [L[k]]) ++ putK nm d (L.drop (k + 1)) (b || !lessB L[k].1 nm) := by
  rw [List.drop_eq_getElem_cons hk]
  rfl
/-- A list of one's own, and nothing else has turned. -/
def FilesNew (L : List Fl) (w : World) (e : Ending) (w' : World) : Prop := ∃ v, e = .returned v ∧ OwnF w' w.heap.size v L ∧ Bl w w'
theorem own_shapeF {w : World} {B : Nat} {v : Value} {L : List Fl} (h : OwnF w B v L) : ∃ A c, v = .slice A L.length c ∧ L.length ≤ c ∧ FilesAt w w.heap.size A L ∧ (∀ g, blockOf A = some g → B ≤ g ∧ g < w.heap.size) := by
  have h' := h
  obtain ⟨A, c, rfl, hc, h1, h2, h3⟩ := Owns.shape h
  refine ⟨A, c, rfl, ?_, h1, Owns.lt_ h⟩
  rcases h'.2 with ⟨e, h0⟩ | ⟨g, cap, cur, e, _, _, hnc, _⟩
  · omega
  · injection e with e1 e2 e3
    omega

set_option maxHeartbeats 2000000 in
theorem l15Cut_any (A : Option Addr) (n c : Nat) (L : List Fl) (hn : n = L.length) (nm : ByteArray) (w : World) (hm : n ≤ 1048000) (H1 : FilesAt w w.heap.size A L) :
    Calls Try.prog 72 #[.slice A n c, .string nm] w (FilesNew (cutL L nm) w) := by
  have K1 := Lib.hid H1
  have HN := Lib.hid hn
  clear H1 hn
  go_enter Try.func72, Try.ntmps72
  go_wp2
  go_loopw [5, 6] (fun v i wr => ∃ (k : Nat) (V : List Fl), k ≤ n ∧ i = .int .i64 k ∧ Hid (V ++ cutL (L.drop k) nm = cutL L nm) ∧ V.length ≤ k ∧ OwnF wr w.heap.size v V ∧ Bl w wr) (fun _ i _ => n - (intOf i).toNat)
  case atStart => exact ⟨0, [], by omega, rfl, Lib.hid rfl, by simp, World.ownsRow_made (base := w.heap.size) (e := 86) (size := 2) w #[] 0 (Nat.le_refl _) (by unfold maxLen; omega) rfl, (by repeat' (first | exact Bl.refl _ | with_reducible assumption | with_reducible refine Bl.drew_ ?_ | with_reducible refine Bl.drewN_ ?_ _ | with_reducible refine Bl.alloc_ ?_ _ | with_reducible refine Bl.trans_ ?_ (by assumption) | with_reducible refine Bl.trans_ ?_ (And.left (by assumption))))⟩
  case round =>
    obtain ⟨k, V, hk, rfl, HV, hVl, hown, hbl⟩ := hrel
    have O := Lib.hid hown
    have BW := Lib.hid hbl
    by_cases hlt : k < n
    · have hkl : k < L.length := by have := HN.out; omega
      obtain ⟨g1, o1, rfl, hg1, hc1⟩ := K1.out.cell (by omega)
      obtain ⟨p1, p2⟩ := hc1 k hkl
      rw [← (bcell hbl).1 _ _ hg1] at p1 p2
      have HD := Lib.hid (cut_drop nm L k hkl)
      clear hc1 hown hbl
      obtain ⟨f, hf⟩ : ∃ f, f = L[k] := ⟨_, rfl⟩
      rw [← hf] at p1 p2 HD
      clear hf
      by_cases e : sameB f.1 nm = true
      · have e' : (f.1.toList == nm.toList) = true := e
        have E := Lib.hid e
        clear e
        go_wp2
        go_roundw
        case rel =>
          refine ⟨k + 1, V, by omega, by go_num, Lib.hid ?_, by omega, O.out, BW.out⟩
          have := HV.out
          rw [HD.out, if_pos E.out] at this
          simpa using this
        case measure => simp [intOf]; omega
      · have e0 : sameB f.1 nm = false := by simpa using e
        have e' : (f.1.toList == nm.toList) = false := e0
        have E := Lib.hid e0
        have hs := BW.out.size
        clear e e0
        go_wp2_with (at_builtin; refine wp_append_File rfl (.tmp 21) (.tmp 26) rfl wr w.heap.size _ V f _ rfl rfl O.out (by omega) (by omega) ?_)
        intro v8 w8 hown8 hg8
        have O8 := Lib.hid hown8
        have B8 := Lib.hid (hg8 w BW.out (Nat.le_refl _))
        clear hown8 hg8
        go_wp2
        go_roundw
        case rel =>
          refine ⟨k + 1, V ++ [f], by omega, by go_num, Lib.hid ?_, by simp; omega, O8.out, B8.out⟩
          have := HV.out
          rw [HD.out, if_neg (by rw [E.out]; simp)] at this
          simpa using this
        case measure => simp [intOf]; omega
    · go_wp2
      go_ret
      have e : cutL (L.drop k) nm = [] := by rw [List.drop_of_length_le (by have := HN.out; omega)]; rfl
      have := HV.out
      rw [e, List.append_nil] at this
      exact ⟨_, rfl, by rw [← this]; exact hown, hbl⟩

set_option maxHeartbeats 4000000 in
set_option maxRecDepth 100000 in
theorem l15Put_any (A : Option Addr) (n c : Nat) (L : List Fl) (hn : n = L.length) (nm d : ByteArray) (w : World) (hm : n ≤ 500000) (hs : SortedF L) (H1 : FilesAt w w.heap.size A L) :
    Calls Try.prog 71 #[.slice A n c, .string nm, .string d] w (FilesNew (putL L nm d) w) := by
  have K1 := Lib.hid H1
  have HN := Lib.hid hn
  have HE := Lib.hid (putK_eq nm d hs)
  clear H1 hn hs
  go_enter Try.func71, Try.ntmps71
  go_wp2
  go_loopw [7, 8, 9] (fun v b i wr => ∃ (k : Nat) (b' : Bool) (V : List Fl), k ≤ n ∧ i = .int .i64 k ∧ b = .bool b' ∧ Hid (V ++ putK nm d (L.drop k) b' = putK nm d L false) ∧ V.length ≤ 2 * k ∧ OwnF wr w.heap.size v V ∧ Bl w wr) (fun _ _ i _ => n - (intOf i).toNat)
  case atStart => exact ⟨0, false, [], by omega, rfl, rfl, Lib.hid rfl, by simp, World.ownsRow_made (base := w.heap.size) (e := 86) (size := 2) w #[] 0 (Nat.le_refl _) (by unfold maxLen; omega) rfl, (by repeat' (first | exact Bl.refl _ | with_reducible assumption | with_reducible refine Bl.drew_ ?_ | with_reducible refine Bl.drewN_ ?_ _ | with_reducible refine Bl.alloc_ ?_ _ | with_reducible refine Bl.trans_ ?_ (by assumption) | with_reducible refine Bl.trans_ ?_ (And.left (by assumption))))⟩
  case round =>
    obtain ⟨k, b, V, hk, rfl, rfl, HV, hVl, hown, hbl⟩ := hrel
    have O := Lib.hid hown
    have BW := Lib.hid hbl
    by_cases hlt : k < n
    · have hkl : k < L.length := by have := HN.out; omega
      have hVl' := hVl
      obtain ⟨g1, o1, rfl, hg1, hc1⟩ := K1.out.cell (by omega)
      obtain ⟨q1, q2⟩ := hc1 k hkl
      have p1 := q1
      have p2 := q2
      rw [← (bcell hbl).1 _ _ hg1] at p1 p2
      have HD := Lib.hid (putK_drop nm d L k hkl b)
      clear hc1 hown hbl
      obtain ⟨f, hf⟩ : ∃ f, f = L[k] := ⟨_, rfl⟩
      rw [← hf] at p1 p2 q1 q2 HD
      clear hf
      cases b with
      | false =>
        by_cases el : lessB f.1 nm = true
        · have el' : Op.bytesLess f.1.toList nm.toList = true := el
          have e0 : sameB f.1 nm = false := lessB_ne el
          have e' : (f.1.toList == nm.toList) = false := e0
          have E := Lib.hid e0
          have EL := Lib.hid el
          clear e0 el
          go_wp2_with (at_builtin; refine wp_append_File rfl (.tmp 41) (.tmp 46) rfl wr w.heap.size _ V f _ rfl rfl O.out (by first | omega | (simp; omega)) (by have := BW.out.size; omega) ?_)
          intro v8 w8 hown8 hg8
          have O8 := Lib.hid hown8
          have B8 := Lib.hid (hg8 w BW.out (Nat.le_refl _))
          clear hown8 hg8
          go_wp2
          go_roundw
          case rel =>
            refine ⟨k + 1, false, V ++ [f], by omega, by go_num, rfl, Lib.hid ?_, by first | omega | (simp; omega), O8.out, B8.out⟩
            have := HV.out
            rw [HD.out] at this
            simp only [EL.out, E.out] at this
            simpa using this
          case measure => simp [intOf]; omega
        · have el0 : lessB f.1 nm = false := by simpa using el
          have el' : Op.bytesLess f.1.toList nm.toList = false := el0
          have EL := Lib.hid el0
          clear el el0
          by_cases e : sameB f.1 nm = true
          · have e' : (f.1.toList == nm.toList) = true := e
            have E := Lib.hid e
            clear e
            go_wp2_with (at_builtin; refine wp_append_File rfl (.tmp 28) (.tmp 32) rfl wr w.heap.size _ V (nm, d) _ rfl rfl O.out (by first | omega | (simp; omega)) (by have := BW.out.size; omega) ?_)
            intro v8 w8 hown8 hg8
            have O8 := Lib.hid hown8
            have B8 := Lib.hid (hg8 w BW.out (Nat.le_refl _))
            clear hown8 hg8
            have p1 := ((bcell B8.out).1 _ _ hg1).trans q1
            have p2 := ((bcell B8.out).1 _ _ hg1).trans q2
            go_wp2
            go_roundw
            case rel =>
              refine ⟨k + 1, true, V ++ [(nm, d)], by omega, by go_num, rfl, Lib.hid ?_, by first | omega | (simp; omega), O8.out, B8.out⟩
              have := HV.out
              rw [HD.out] at this
              simp only [EL.out, E.out] at this
              simpa using this
            case measure => simp [intOf]; omega
          · have e0 : sameB f.1 nm = false := by simpa using e
            have e' : (f.1.toList == nm.toList) = false := e0
            have E := Lib.hid e0
            clear e e0
            go_wp2_with (at_builtin; refine wp_append_File rfl (.tmp 28) (.tmp 32) rfl wr w.heap.size _ V (nm, d) _ rfl rfl O.out (by first | omega | (simp; omega)) (by have := BW.out.size; omega) ?_)
            intro v8 w8 hown8 hg8
            have O8 := Lib.hid hown8
            have B8 := Lib.hid (hg8 w BW.out (Nat.le_refl _))
            clear hown8 hg8
            have p1 := ((bcell B8.out).1 _ _ hg1).trans q1
            have p2 := ((bcell B8.out).1 _ _ hg1).trans q2
            go_wp2_with (at_builtin; refine wp_append_File rfl (.tmp 41) (.tmp 46) rfl w8 w.heap.size _ (V ++ [(nm, d)]) f _ rfl rfl O8.out (by first | omega | (simp; omega)) (by have := B8.out.size; omega) ?_)
            intro v9 w9 hown9 hg9
            have O9 := Lib.hid hown9
            have B9 := Lib.hid (hg9 w B8.out (Nat.le_refl _))
            clear hown9 hg9
            go_wp2
            go_roundw
            case rel =>
              refine ⟨k + 1, true, V ++ [(nm, d), f], by omega, by go_num, rfl, Lib.hid ?_, by first | omega | (simp; omega), O9.out, B9.out⟩
              have := HV.out
              rw [HD.out] at this
              simp only [EL.out, E.out] at this
              simpa using this
            case measure => simp [intOf]; omega
      | true =>
        have EL := Lib.hid (show ∀ b, (true || b) = true from fun b => rfl)
        by_cases e : sameB f.1 nm = true
        · have e' : (f.1.toList == nm.toList) = true := e
          have E := Lib.hid e
          clear e
          go_wp2
          go_roundw
          case rel =>
            refine ⟨k + 1, true, V, by omega, by go_num, rfl, Lib.hid ?_, by first | omega | (simp; omega), O.out, BW.out⟩
            have := HV.out
            rw [HD.out] at this
            simp only [EL.out, E.out] at this
            simpa using this
          case measure => simp [intOf]; omega
        · have e0 : sameB f.1 nm = false := by simpa using e
          have e' : (f.1.toList == nm.toList) = false := e0
          have E := Lib.hid e0
          clear e e0
          go_wp2_with (at_builtin; refine wp_append_File rfl (.tmp 41) (.tmp 46) rfl wr w.heap.size _ V f _ rfl rfl O.out (by first | omega | (simp; omega)) (by have := BW.out.size; omega) ?_)
          intro v8 w8 hown8 hg8
          have O8 := Lib.hid hown8
          have B8 := Lib.hid (hg8 w BW.out (Nat.le_refl _))
          clear hown8 hg8
          go_wp2
          go_roundw
          case rel =>
            refine ⟨k + 1, true, V ++ [f], by omega, by go_num, rfl, Lib.hid ?_, by first | omega | (simp; omega), O8.out, B8.out⟩
            have := HV.out
            rw [HD.out] at this
            simp only [EL.out, E.out] at this
            simpa using this
          case measure => simp [intOf]; omega
    · have ek : putK nm d (L.drop k) b = if b then [] else [(nm, d)] := by rw [List.drop_of_length_le (by have := HN.out; omega)]; rfl
      have HK := Lib.hid ek
      clear ek hown hbl
      cases b with
      | false =>
        go_wp2_with (at_builtin; refine wp_append_File rfl (.tmp 50) (.tmp 54) rfl wr w.heap.size _ V (nm, d) _ rfl rfl O.out (by first | omega | (simp; omega)) (by have := BW.out.size; omega) ?_)
        intro v8 w8 hown8 hg8
        have O8 := Lib.hid hown8
        have B8 := Lib.hid (hg8 w BW.out (Nat.le_refl _))
        clear hown8 hg8
        go_wp2
        go_ret
        have := HV.out
        rw [HK.out, HE.out] at this
        exact ⟨_, rfl, by rw [← this]; exact O8.out, B8.out⟩
      | true =>
        go_wp2
        go_ret
        have := HV.out
        rw [HK.out, HE.out] at this
        simp only [if_true, List.append_nil] at this
        exact ⟨_, rfl, by rw [← this]; exact O.out, BW.out⟩

end Go.Proofs.Ytgfmgmcpfefmkaa

set_option linter.unusedSimpArgs false
set_option linter.unusedVariables false
namespace Go.Proofs.Ytgfmgmcpfefmkaa
open Go.RowKit

/-- How much a disk takes of what is left. -/
def dkSz (L1 L2 : List Fl) (O : List Dp) : Nat := (L1.length + szL szFl L1) + (L2.length + szL szFl L2) + (O.length + szL szDp O)
theorem leftI_add {l : Int} {a b : Nat} (h : ¬ l - a < 0) : leftI (l - a) b = leftI l (a + b) := by
  unfold leftI
  rw [show l - (a : Int) - (b : Int) = l - ((a + b : Nat) : Int) from by omega]

set_option maxRecDepth 100000 in
set_option maxHeartbeats 2000000 in
theorem szDisk_any (A1 A2 A3 : Option Addr) (n1 c1 n2 c2 n3 c3 : Nat) (L1 L2 : List Fl) (O : List Dp) (hn1 : n1 = L1.length) (hn2 : n2 = L2.length) (hn3 : n3 = O.length) (w : World)
    (hm1 : n1 ≤ 9223372036854775807) (hm2 : n2 ≤ 9223372036854775807) (hm3 : n3 ≤ 9223372036854775807)
    (hz1 : ∀ f ∈ L1, f.1.size ≤ 9223372036854775807 ∧ f.2.size ≤ 9223372036854775807) (hz2 : ∀ f ∈ L2, f.1.size ≤ 9223372036854775807 ∧ f.2.size ≤ 9223372036854775807)
    (hz3 : ∀ o ∈ O, o.name.size ≤ 9223372036854775807 ∧ o.to.size ≤ 9223372036854775807 ∧ o.data.size ≤ 9223372036854775807)
    (H1 : FilesAt w w.heap.size A1 L1) (H2 : FilesAt w w.heap.size A2 L2) (H3 : OpsAt w w.heap.size A3 O) :
    Calls Try.prog 8 #[.agg #[.slice A1 n1 c1, .slice A2 n2 c2, .slice A3 n3 c3], .int .i64 1048576] w fun e w' => e = .returned (.int .i64 (leftI 1048576 (dkSz L1 L2 O))) ∧ Bl w w' := by
  have K1 := Lib.hid H1
  have K2 := Lib.hid H2
  have K3 := Lib.hid H3
  have N1 := Lib.hid hn1
  have N2 := Lib.hid hn2
  have N3 := Lib.hid hn3
  have HD := Lib.hid (show dkSz L1 L2 O = (n1 + szL szFl L1) + (n2 + szL szFl L2) + (n3 + szL szDp O) from by unfold dkSz; rw [hn1, hn2, hn3])
  obtain ⟨a, ha⟩ : ∃ a, a = n1 + szL szFl L1 := ⟨_, rfl⟩
  obtain ⟨b, hb⟩ : ∃ b, b = n2 + szL szFl L2 := ⟨_, rfl⟩
  obtain ⟨c, hc⟩ : ∃ c, c = n3 + szL szDp O := ⟨_, rfl⟩
  rw [← ha, ← hb, ← hc] at HD
  have HA := Lib.hid ha
  have HB := Lib.hid hb
  have HC := Lib.hid hc
  have Z1 := Lib.hid hz1
  have Z2 := Lib.hid hz2
  have Z3 := Lib.hid hz3
  clear H1 H2 H3 hn1 hn2 hn3 ha hb hc hz1 hz2 hz3
  by_cases h1 : (1048576 : Int) - a < 0
  · go_enter Try.func8, Try.ntmps8
    go_wp2_with fail
    refine (szFileS_any A1 n1 c1 L1 N1.out 1048576 _ hm1 Z1.out (by omega) (by omega) (K1.out.bl (by repeat' (first | exact Bl.refl _ | with_reducible assumption | with_reducible refine Bl.drew_ ?_ | with_reducible refine Bl.drewN_ ?_ _ | with_reducible refine Bl.alloc_ ?_ _ | with_reducible refine Bl.trans_ ?_ (by assumption) | with_reducible refine Bl.trans_ ?_ (And.left (by assumption)))))).mono ?_
    rintro e w1 ⟨rfl, hb1⟩
    rw [← HA.out, leftI_neg (l := 1048576) (n := a) (by omega)]
    go_wp2
    go_ret
    exact ⟨ret_int (by rw [HD.out, leftI_neg (by omega)]), (Bl.alloc_ (Bl.refl w) _).trans_ hb1⟩
  · by_cases h2 : (1048576 : Int) - a - b < 0
    · have p1 : ¬ (1048576 : Int) - a < 0 := h1
      go_enter Try.func8, Try.ntmps8
      go_wp2_with fail
      refine (szFileS_any A1 n1 c1 L1 N1.out 1048576 _ hm1 Z1.out (by omega) (by omega) (K1.out.bl (by repeat' (first | exact Bl.refl _ | with_reducible assumption | with_reducible refine Bl.drew_ ?_ | with_reducible refine Bl.drewN_ ?_ _ | with_reducible refine Bl.alloc_ ?_ _ | with_reducible refine Bl.trans_ ?_ (by assumption) | with_reducible refine Bl.trans_ ?_ (And.left (by assumption)))))).mono ?_
      rintro e w1 ⟨rfl, hb1⟩
      obtain ⟨q0, q1, q2⟩ := box3 hb1
      have B1 := Lib.hid ((Bl.alloc_ (Bl.refl w) _).trans_ hb1)
      rw [← HA.out, leftI_pos (l := 1048576) (n := a) (by omega)]
      go_wp2_with fail
      refine (szFileS_any A2 n2 c2 L2 N2.out _ _ hm2 Z2.out (by omega) (by omega) (K2.out.bl B1.out)).mono ?_
      rintro e w2 ⟨rfl, hb2⟩
      rw [← HB.out, leftI_neg (l := 1048576 - (a : Int)) (n := b) (by omega)]
      go_wp2
      go_ret
      exact ⟨ret_int (by rw [HD.out, leftI_neg (by omega)]), B1.out.trans_ hb2⟩
    · have p1 : ¬ (1048576 : Int) - a < 0 := h1
      have p2 : ¬ (1048576 : Int) - a - b < 0 := h2
      go_enter Try.func8, Try.ntmps8
      go_wp2_with fail
      refine (szFileS_any A1 n1 c1 L1 N1.out 1048576 _ hm1 Z1.out (by omega) (by omega) (K1.out.bl (by repeat' (first | exact Bl.refl _ | with_reducible assumption | with_reducible refine Bl.drew_ ?_ | with_reducible refine Bl.drewN_ ?_ _ | with_reducible refine Bl.alloc_ ?_ _ | with_reducible refine Bl.trans_ ?_ (by assumption) | with_reducible refine Bl.trans_ ?_ (And.left (by assumption)))))).mono ?_
      rintro e w1 ⟨rfl, hb1⟩
      obtain ⟨q0, q1, q2⟩ := box3 hb1
      have X1 := Lib.hid hb1
      have B1 := Lib.hid ((Bl.alloc_ (Bl.refl w) _).trans_ hb1)
      rw [← HA.out, leftI_pos (l := 1048576) (n := a) (by omega)]
      go_wp2_with fail
      refine (szFileS_any A2 n2 c2 L2 N2.out _ _ hm2 Z2.out (by omega) (by omega) (K2.out.bl B1.out)).mono ?_
      rintro e w2 ⟨rfl, hb2⟩
      obtain ⟨q0, q1, q2⟩ := box3 (X1.out.trans_ hb2)
      have B2 := Lib.hid (B1.out.trans_ hb2)
      rw [← HB.out, leftI_pos (l := 1048576 - (a : Int)) (n := b) (by omega)]
      go_wp2_with fail
      refine (szDOpS_any A3 n3 c3 O N3.out _ _ hm3 Z3.out (by omega) (by omega) (K3.out.bl B2.out)).mono ?_
      rintro e w3 ⟨rfl, hb3⟩
      have B3 := Lib.hid (B2.out.trans_ hb3)
      rw [← HC.out]
      have HE : leftI ((1048576 : Int) - a - b) c = leftI 1048576 (dkSz L1 L2 O) := by
        rw [HD.out, show (1048576 : Int) - (a : Int) - (b : Int) = 1048576 - ((a + b : Nat) : Int) from by omega, leftI_add (by omega)]
      rw [HE]
      have hlo : leftI 1048576 (dkSz L1 L2 O) < 0 → leftI 1048576 (dkSz L1 L2 O) = -1 := fun h => by
        unfold leftI at h ⊢
        split at h
        · rename_i h'; rw [if_pos h']
        · omega
      obtain ⟨r, hr⟩ : ∃ r, r = leftI 1048576 (dkSz L1 L2 O) := ⟨_, rfl⟩
      rw [← hr] at hlo ⊢
      have HR := Lib.hid hr
      clear hr HE hb1 hb2 hb3 q0 q1 q2
      by_cases h3 : r < 0
      · obtain rfl := hlo h3
        go_wp2
        go_ret
        exact ⟨ret_int HR.out, B3.out⟩
      · clear hlo
        go_wp2
        go_ret
        exact ⟨ret_int HR.out, B3.out⟩

/-- A disk that has been made anew: three rows of its own. -/
structure DiskRows (w : World) (B g1 g2 g3 n1 n2 n3 : Nat) (L1 L2 : List Fl) (O : List Dp) : Prop where
  r1 : OwnF w B (.slice (some ⟨g1, 0, none⟩) n1 n1) L1
  r2 : OwnF w B (.slice (some ⟨g2, 0, none⟩) n2 n2) L2
  r3 : OwnO w B (.slice (some ⟨g3, 0, none⟩) n3 n3) O
  d12 : g1 ≠ g2
  d13 : g1 ≠ g3
  d23 : g2 ≠ g3
def DiskMade (n1 n2 n3 : Nat) (L1 L2 : List Fl) (O : List Dp) (w : World) (e : Ending) (w' : World) : Prop :=
  ∃ g1 g2 g3, e = .returned (.agg #[.slice (some ⟨g1, 0, none⟩) n1 n1, .slice (some ⟨g2, 0, none⟩) n2 n2, .slice (some ⟨g3, 0, none⟩) n3 n3]) ∧ DiskRows w' w.heap.size g1 g2 g3 n1 n2 n3 L1 L2 O ∧ Bl w w'

theorem own_gF {w : World} {B g n c : Nat} {L : List Fl} (h : OwnF w B (.slice (some ⟨g, 0, none⟩) n c) L) : B ≤ g ∧ g < w.heap.size := Owns.lt_ (show Owns _ _ _ _ _ _ _ from h) g rfl
theorem own_gO {w : World} {B g n c : Nat} {L : List Dp} (h : OwnO w B (.slice (some ⟨g, 0, none⟩) n c) L) : B ≤ g ∧ g < w.heap.size := Owns.lt_ (show Owns _ _ _ _ _ _ _ from h) g rfl
theorem OwnF.bl {w w' : World} {B : Nat} {v : Value} {L : List Fl} (h : OwnF w B v L) (hb : Bl w w') : OwnF w' B v L := Owns.bl h hb
theorem OwnO.bl {w w' : World} {B : Nat} {v : Value} {L : List Dp} (h : OwnO w B v L) (hb : Bl w w') : OwnO w' B v L := Owns.bl h hb
theorem OwnF.low {w : World} {B B' : Nat} {v : Value} {L : List Fl} (h : OwnF w B' v L) (hB : B ≤ B') : OwnF w B v L := Owns.low h hB
theorem OwnO.low {w : World} {B B' : Nat} {v : Value} {L : List Dp} (h : OwnO w B' v L) (hB : B ≤ B') : OwnO w B v L := Owns.low h hB
theorem OwnF.at_ {w : World} {B g n c : Nat} {L : List Fl} (h : OwnF w B (.slice (some ⟨g, 0, none⟩) n c) L) : FilesAt w w.heap.size (some ⟨g, 0, none⟩) L := by
  obtain ⟨A, c', e, _, h1, _⟩ := own_shapeF h
  injection e with e1 e2 e3
  rw [e1]; exact h1
theorem OwnO.at_ {w : World} {B g n c : Nat} {L : List Dp} (h : OwnO w B (.slice (some ⟨g, 0, none⟩) n c) L) : OpsAt w w.heap.size (some ⟨g, 0, none⟩) L := by
  obtain ⟨A, c', e, _, h1, _⟩ := Owns.shape (show Owns _ _ _ _ _ _ _ from h)
  injection e with e1 e2 e3
  rw [e1]; exact h1
theorem OwnF.setOther {w : World} {B g n c : Nat} {L : List Fl} (h : OwnF w B (.slice (some ⟨g, 0, none⟩) n c) L) {b : Nat} (hb : b < B) (o : Nat) (u : Value) : OwnF (w.setCell ⟨b, o, none⟩ u) B (.slice (some ⟨g, 0, none⟩) n c) L :=
  Owns.setOther (show Owns _ _ _ _ _ _ _ from h) (fun g' hg' => by
    have := (Owns.lt (show Owns _ _ _ _ _ _ _ from h) g' hg').1
    show g' ≠ b
    omega) u
theorem OwnO.setOther {w : World} {B g n c : Nat} {L : List Dp} (h : OwnO w B (.slice (some ⟨g, 0, none⟩) n c) L) {b : Nat} (hb : b < B) (o : Nat) (u : Value) : OwnO (w.setCell ⟨b, o, none⟩ u) B (.slice (some ⟨g, 0, none⟩) n c) L :=
  Owns.setOther (show Owns _ _ _ _ _ _ _ from h) (fun g' hg' => by
    have := (Owns.lt (show Owns _ _ _ _ _ _ _ from h) g' hg').1
    show g' ≠ b
    omega) u

end Go.Proofs.Ytgfmgmcpfefmkaa

set_option linter.unusedSimpArgs false
set_option linter.unusedVariables false
namespace Go.Proofs.Ytgfmgmcpfefmkaa
open Go.RowKit

set_option maxRecDepth 100000 in
set_option maxHeartbeats 4000000 in
theorem toDisk_any (A1 A2 A3 : Option Addr) (n1 c1 n2 c2 n3 c3 : Nat) (L1 L2 : List Fl) (O : List Dp) (hn1 : n1 = L1.length) (hn2 : n2 = L2.length) (hn3 : n3 = O.length) (w : World)
    (hm1 : n1 ≤ 1048576) (hm2 : n2 ≤ 1048576) (hm3 : n3 ≤ 1048576) (H1 : FilesAt w w.heap.size A1 L1) (H2 : FilesAt w w.heap.size A2 L2) (H3 : OpsAt w w.heap.size A3 O) :
    Calls Try.prog 10 #[.agg #[.slice A1 n1 c1, .slice A2 n2 c2, .slice A3 n3 c3]] w (DiskMade n1 n2 n3 L1 L2 O w) := by
  have K1 := Lib.hid H1
  have K2 := Lib.hid H2
  have K3 := Lib.hid H3
  have N1 := Lib.hid hn1
  have N2 := Lib.hid hn2
  have N3 := Lib.hid hn3
  clear H1 H2 H3 hn1 hn2 hn3
  go_enter Try.func10, Try.ntmps10
  go_wp2_with fail
  refine (toFileS_any A1 n1 c1 L1 N1.out _ hm1 (K1.out.bl (by repeat' (first | exact Bl.refl _ | with_reducible assumption | with_reducible refine Bl.drew_ ?_ | with_reducible refine Bl.drewN_ ?_ _ | with_reducible refine Bl.alloc_ ?_ _ | with_reducible refine Bl.trans_ ?_ (by assumption) | with_reducible refine Bl.trans_ ?_ (And.left (by assumption)))))).mono ?_
  rintro e w1 ⟨g1, rfl, ho1, hb1, -⟩
  have s1 := hb1.size
  simp only [World.size_alloc] at s1
  have h1 := own_gF ho1
  simp only [World.size_alloc] at h1
  have O1 := Lib.hid (show OwnF w1 (w.heap.size + 1 + 1 + 1) (.slice (some ⟨g1, 0, none⟩) n1 n1) L1 from by simpa only [World.size_alloc] using ho1)
  have X1 := Lib.hid (show Bl w (w1.setCell ⟨w.heap.size + 1 + 1, 0, none⟩ (.slice (some ⟨g1, 0, none⟩) n1 n1)) from Bl.set_ ((((Bl.refl w).alloc_ _).alloc_ _).alloc_ _ |>.trans_ hb1) (by show w.heap.size ≤ w.heap.size + 1 + 1; omega) _)
  obtain ⟨hc1, hf1⟩ := bcell hb1
  have i1 : w.heap.size < w1.heap.size := by omega
  have i2 : w.heap.size + 1 < w1.heap.size := by omega
  have i3 : w.heap.size + 1 + 1 < w1.heap.size := by omega
  clear ho1 hb1
  go_wp2_with fail
  refine (toFileS_any A2 n2 c2 L2 N2.out _ hm2 (K2.out.bl X1.out)).mono ?_
  rintro e w2 ⟨g2, rfl, ho2, hb2, -⟩
  have s2 := hb2.size
  simp only [World.size_setCell] at s2
  have h2 := own_gF ho2
  simp only [World.size_setCell] at h2
  have O2 := Lib.hid (show OwnF w2 w1.heap.size (.slice (some ⟨g2, 0, none⟩) n2 n2) L2 from by simpa only [World.size_setCell] using ho2)
  have O1b := Lib.hid ((O1.out.setOther (b := w.heap.size + 1 + 1) (by omega) 0 (.slice (some ⟨g1, 0, none⟩) n1 n1)).bl hb2)
  have X2 := Lib.hid (show Bl w (w2.setCell ⟨w.heap.size + 1 + 1, 1, none⟩ (.slice (some ⟨g2, 0, none⟩) n2 n2)) from Bl.set_ (X1.out.trans_ hb2) (by show w.heap.size ≤ w.heap.size + 1 + 1; omega) _)
  obtain ⟨hc2, hf2⟩ := bcell hb2
  simp only [World.size_setCell] at hc2 hf2
  have i4 : w.heap.size < w2.heap.size := by omega
  have i5 : w.heap.size + 1 < w2.heap.size := by omega
  have i6 : w.heap.size + 1 + 1 < w2.heap.size := by omega
  clear ho2 hb2 O1
  go_wp2_with fail
  refine (toDOpS_any A3 n3 c3 O N3.out _ hm3 (K3.out.bl X2.out)).mono ?_
  rintro e w3 ⟨g3, rfl, ho3, hb3, -⟩
  have s3 := hb3.size
  simp only [World.size_setCell] at s3
  have h3 := own_gO ho3
  simp only [World.size_setCell] at h3
  have O3 := Lib.hid (show OwnO w3 w2.heap.size (.slice (some ⟨g3, 0, none⟩) n3 n3) O from by simpa only [World.size_setCell] using ho3)
  have O1c := Lib.hid ((O1b.out.setOther (b := w.heap.size + 1 + 1) (by omega) 1 (.slice (some ⟨g2, 0, none⟩) n2 n2)).bl hb3)
  have O2c := Lib.hid ((O2.out.setOther (b := w.heap.size + 1 + 1) (by omega) 1 (.slice (some ⟨g2, 0, none⟩) n2 n2)).bl hb3)
  have X3 := Lib.hid (X2.out.trans_ hb3)
  obtain ⟨hc3, hf3⟩ := bcell hb3
  simp only [World.size_setCell] at hc3 hf3
  have i7 : w.heap.size < w3.heap.size := by omega
  have i8 : w.heap.size + 1 < w3.heap.size := by omega
  have i9 : w.heap.size + 1 + 1 < w3.heap.size := by omega
  clear ho3 hb3 O1b O2
  go_wp2
  refine bodyPost_ret (v := .agg #[.slice (some ⟨g1, 0, none⟩) n1 n1, .slice (some ⟨g2, 0, none⟩) n2 n2, .slice (some ⟨g3, 0, none⟩) n3 n3]) (by simp [results, Try.results10, go_sem, hc1, hc2, hc3, i1, i2, i3, i4, i5, i6, i7, i8, i9]) rfl ?_
  refine ⟨g1, g2, g3, rfl, ⟨?_, ?_, ?_, by omega, by omega, by omega⟩, ?_⟩
  · exact ((((O1c.out.setOther (b := w.heap.size + 1 + 1) (by omega) 2 _).setOther (b := w.heap.size + 1) (by omega) 0 _).setOther (b := w.heap.size + 1) (by omega) 1 _).setOther (b := w.heap.size + 1) (by omega) 2 _).low (by omega)
  · exact ((((O2c.out.setOther (b := w.heap.size + 1 + 1) (by omega) 2 _).setOther (b := w.heap.size + 1) (by omega) 0 _).setOther (b := w.heap.size + 1) (by omega) 1 _).setOther (b := w.heap.size + 1) (by omega) 2 _).low (by omega)
  · exact ((((O3.out.setOther (b := w.heap.size + 1 + 1) (by omega) 2 _).setOther (b := w.heap.size + 1) (by omega) 0 _).setOther (b := w.heap.size + 1) (by omega) 1 _).setOther (b := w.heap.size + 1) (by omega) 2 _).low (by omega)
  · exact Bl.set_ (Bl.set_ (Bl.set_ (Bl.set_ X3.out (by show w.heap.size ≤ w.heap.size + 1 + 1; omega) _) (by show w.heap.size ≤ w.heap.size + 1; omega) _) (by show w.heap.size ≤ w.heap.size + 1; omega) _) (by show w.heap.size ≤ w.heap.size + 1; omega) _

end Go.Proofs.Ytgfmgmcpfefmkaa
