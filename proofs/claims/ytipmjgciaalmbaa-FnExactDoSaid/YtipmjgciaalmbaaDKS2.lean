/-
  What is proved here: the document's way of putting a file among others, and of taking one out. No conditions beyond those that each theorem states.
-/
import Derived.Test.YtipmjgciaalmbaaDKS1
set_option linter.unusedSimpArgs false
set_option linter.unusedVariables false
namespace Go.Proofs.Ytipmjgciaalmbaa
open Go.RowKit

theorem putK_len (n d : ByteArray) : ∀ (L : List Fl) (b : Bool), (putK n d L b).length ≤ L.length + (if b then 0 else 1)
  | [], b => by cases b <;> simp [putK]
  | f :: r, b => by
    have h := putK_len n d r (b || !lessB f.1 n)
    unfold putK
    simp only [List.length_append]
    generalize lessB f.1 n = l at h ⊢
    generalize sameB f.1 n = m at h ⊢
    cases b <;> cases l <;> cases m <;> simp at h ⊢ <;> omega
theorem cut_drop (nm : ByteArray) (L : List Fl) (k : Nat) (hk : k < L.length) : cutL (L.drop k) nm = (if sameB L[k].1 nm then [] else [L[k]]) ++ cutL (L.drop (k + 1)) nm := by
  rw [List.drop_eq_getElem_cons hk]
  unfold cutL
  rw [List.filter_cons]
  cases h : sameB L[k].1 nm <;> simp
theorem putK_drop (nm d : ByteArray) (L : List Fl) (k : Nat) (hk : k < L.length) (b : Bool) :
    putK nm d (L.drop k) b = (if !b && !lessB L[k].1 nm then [(nm, d)] else []) ++ (if sameB L[k].1 nm then [] else [L[k]]) ++ putK nm d (L.drop (k + 1)) (b || !lessB L[k].1 nm) := by
  rw [List.drop_eq_getElem_cons hk]
  rfl
/-- A list of one's own, and nothing else has turned. -/
def FilesNew (L : List Fl) (w : World) (e : Ending) (w' : World) : Prop := ∃ v, e = .returned v ∧ OwnF w' w.heap.size v L ∧ Bl w w'
theorem own_shapeF {w : World} {B : Nat} {v : Value} {L : List Fl} (h : OwnF w B v L) : ∃ A c, v = .slice A L.length c ∧ L.length ≤ c ∧ FilesAt w w.heap.size A L ∧ (∀ g, blockOf A = some g → B ≤ g ∧ g < w.heap.size) := by
  have h' := h
  obtain ⟨A, c, rfl, hc, h1, h2, h3⟩ := Owns.shape h
  refine ⟨A, c, rfl, ?_, h1, Owns.lt_ h⟩
  rcases h'.2 with ⟨e, h0⟩ | ⟨g, cap, cur, e, _, _, hnc, _⟩
  · omega
  · injection e with e1 e2 e3
    omega
theorem empty_own (w W : World) (hb : Bl W w) (t : TypeId) : OwnF (w.alloc (.cells #[] 89)) W.heap.size (.slice (some ⟨w.heap.size, 0, none⟩) 0 0) [] :=
  World.ownsRow_made (base := W.heap.size) (e := 89) (size := 2) w #[] 0 hb.size (by unfold maxLen; omega) rfl

set_option maxHeartbeats 2000000 in
theorem l15Cut_any (A : Option Addr) (n c : Nat) (L : List Fl) (hn : n = L.length) (nm : ByteArray) (w : World) (hm : n ≤ 1048000) (H1 : FilesAt w w.heap.size A L) :
    Calls Try.prog 95 #[.slice A n c, .string nm] w (FilesNew (cutL L nm) w) := by
  have K1 := Lib.hid H1
  have HN := Lib.hid hn
  clear H1 hn
  go_enter Try.func95, Try.ntmps95
  go_wp2
  go_loopw [5, 6] (fun v i wr => ∃ (k : Nat) (V : List Fl), k ≤ n ∧ i = .int .i64 k ∧ Hid (V ++ cutL (L.drop k) nm = cutL L nm) ∧ V.length ≤ k ∧ OwnF wr w.heap.size v V ∧ Bl w wr) (fun _ i _ => n - (intOf i).toNat)
  case atStart => exact ⟨0, [], by omega, rfl, Lib.hid rfl, by simp, World.ownsRow_made (base := w.heap.size) (e := 89) (size := 2) w #[] 0 (Nat.le_refl _) (by unfold maxLen; omega) rfl, (by repeat' (first | exact Bl.refl _ | with_reducible assumption | with_reducible refine Bl.drew_ ?_ | with_reducible refine Bl.drewN_ ?_ _ | with_reducible refine Bl.alloc_ ?_ _ | with_reducible refine Bl.trans_ ?_ (by assumption) | with_reducible refine Bl.trans_ ?_ (And.left (by assumption))))⟩
  case round =>
    obtain ⟨k, V, hk, rfl, HV, hVl, hown, hbl⟩ := hrel
    have O := Lib.hid hown
    have BW := Lib.hid hbl
    by_cases hlt : k < n
    · have hkl : k < L.length := by have := HN.out; omega
      obtain ⟨g1, o1, rfl, hg1, hc1⟩ := K1.out.cell (by omega)
      obtain ⟨p1, p2⟩ := hc1 k hkl
      rw [← (bcell hbl).1 _ _ hg1] at p1 p2
      have HD := Lib.hid (cut_drop nm L k hkl)
      clear hc1 hown hbl
      obtain ⟨f, hf⟩ : ∃ f, f = L[k] := ⟨_, rfl⟩
      rw [← hf] at p1 p2 HD
      clear hf
      by_cases e : sameB f.1 nm = true
      · have e' : (f.1.toList == nm.toList) = true := e
        have E := Lib.hid e
        clear e
        go_wp2
        go_roundw
        case rel =>
          refine ⟨k + 1, V, by omega, by go_num, Lib.hid ?_, by omega, O.out, BW.out⟩
          have := HV.out
          rw [HD.out, if_pos E.out] at this
          simpa using this
        case measure => simp [intOf]; omega
      · have e0 : sameB f.1 nm = false := by simpa using e
        have e' : (f.1.toList == nm.toList) = false := e0
        have E := Lib.hid e0
        have hs := BW.out.size
        clear e e0
        go_wp2_with (at_builtin; refine wp_append_File rfl (.tmp 21) (.tmp 26) rfl wr w.heap.size _ V f _ rfl rfl O.out (by omega) (by omega) ?_)
        intro v8 w8 hown8 hg8
        have O8 := Lib.hid hown8
        have B8 := Lib.hid (hg8 w BW.out (Nat.le_refl _))
        clear hown8 hg8
        go_wp2
        go_roundw
        case rel =>
          refine ⟨k + 1, V ++ [f], by omega, by go_num, Lib.hid ?_, by simp; omega, O8.out, B8.out⟩
          have := HV.out
          rw [HD.out, if_neg (by rw [E.out]; simp)] at this
          simpa using this
        case measure => simp [intOf]; omega
    · go_wp2
      go_ret
      have e : cutL (L.drop k) nm = [] := by rw [List.drop_of_length_le (by have := HN.out; omega)]; rfl
      have := HV.out
      rw [e, List.append_nil] at this
      exact ⟨_, rfl, by rw [← this]; exact hown, hbl⟩

set_option maxHeartbeats 4000000 in
set_option maxRecDepth 100000 in
theorem l15Put_any (A : Option Addr) (n c : Nat) (L : List Fl) (hn : n = L.length) (nm d : ByteArray) (w : World) (hm : n ≤ 500000) (hs : SortedF L) (H1 : FilesAt w w.heap.size A L) :
    Calls Try.prog 94 #[.slice A n c, .string nm, .string d] w (FilesNew (putL L nm d) w) := by
  have K1 := Lib.hid H1
  have HN := Lib.hid hn
  have HE := Lib.hid (putK_eq nm d hs)
  clear H1 hn hs
  go_enter Try.func94, Try.ntmps94
  go_wp2
  go_loopw [7, 8, 9] (fun v b i wr => ∃ (k : Nat) (b' : Bool) (V : List Fl), k ≤ n ∧ i = .int .i64 k ∧ b = .bool b' ∧ Hid (V ++ putK nm d (L.drop k) b' = putK nm d L false) ∧ V.length ≤ 2 * k ∧ OwnF wr w.heap.size v V ∧ Bl w wr) (fun _ _ i _ => n - (intOf i).toNat)
  case atStart => exact ⟨0, false, [], by omega, rfl, rfl, Lib.hid rfl, by simp, World.ownsRow_made (base := w.heap.size) (e := 89) (size := 2) w #[] 0 (Nat.le_refl _) (by unfold maxLen; omega) rfl, (by repeat' (first | exact Bl.refl _ | with_reducible assumption | with_reducible refine Bl.drew_ ?_ | with_reducible refine Bl.drewN_ ?_ _ | with_reducible refine Bl.alloc_ ?_ _ | with_reducible refine Bl.trans_ ?_ (by assumption) | with_reducible refine Bl.trans_ ?_ (And.left (by assumption))))⟩
  case round =>
    obtain ⟨k, b, V, hk, rfl, rfl, HV, hVl, hown, hbl⟩ := hrel
    have O := Lib.hid hown
    have BW := Lib.hid hbl
    by_cases hlt : k < n
    · have hkl : k < L.length := by have := HN.out; omega
      have hVl' := hVl
      obtain ⟨g1, o1, rfl, hg1, hc1⟩ := K1.out.cell (by omega)
      obtain ⟨q1, q2⟩ := hc1 k hkl
      have p1 := q1
      have p2 := q2
      rw [← (bcell hbl).1 _ _ hg1] at p1 p2
      have HD := Lib.hid (putK_drop nm d L k hkl b)
      clear hc1 hown hbl
      obtain ⟨f, hf⟩ : ∃ f, f = L[k] := ⟨_, rfl⟩
      rw [← hf] at p1 p2 q1 q2 HD
      clear hf
      cases b with
      | false =>
        by_cases el : lessB f.1 nm = true
        · have el' : Op.bytesLess f.1.toList nm.toList = true := el
          have e0 : sameB f.1 nm = false := lessB_ne el
          have e' : (f.1.toList == nm.toList) = false := e0
          have E := Lib.hid e0
          have EL := Lib.hid el
          clear e0 el
          go_wp2_with (at_builtin; refine wp_append_File rfl (.tmp 41) (.tmp 46) rfl wr w.heap.size _ V f _ rfl rfl O.out (by first | omega | (simp; omega)) (by have := BW.out.size; omega) ?_)
          intro v8 w8 hown8 hg8
          have O8 := Lib.hid hown8
          have B8 := Lib.hid (hg8 w BW.out (Nat.le_refl _))
          clear hown8 hg8
          go_wp2
          go_roundw
          case rel =>
            refine ⟨k + 1, false, V ++ [f], by omega, by go_num, rfl, Lib.hid ?_, by first | omega | (simp; omega), O8.out, B8.out⟩
            have := HV.out
            rw [HD.out] at this
            simp only [EL.out, E.out] at this
            simpa using this
          case measure => simp [intOf]; omega
        · have el0 : lessB f.1 nm = false := by simpa using el
          have el' : Op.bytesLess f.1.toList nm.toList = false := el0
          have EL := Lib.hid el0
          clear el el0
          by_cases e : sameB f.1 nm = true
          · have e' : (f.1.toList == nm.toList) = true := e
            have E := Lib.hid e
            clear e
            go_wp2_with (at_builtin; refine wp_append_File rfl (.tmp 28) (.tmp 32) rfl wr w.heap.size _ V (nm, d) _ rfl rfl O.out (by first | omega | (simp; omega)) (by have := BW.out.size; omega) ?_)
            intro v8 w8 hown8 hg8
            have O8 := Lib.hid hown8
            have B8 := Lib.hid (hg8 w BW.out (Nat.le_refl _))
            clear hown8 hg8
            have p1 := ((bcell B8.out).1 _ _ hg1).trans q1
            have p2 := ((bcell B8.out).1 _ _ hg1).trans q2
            go_wp2
            go_roundw
            case rel =>
              refine ⟨k + 1, true, V ++ [(nm, d)], by omega, by go_num, rfl, Lib.hid ?_, by first | omega | (simp; omega), O8.out, B8.out⟩
              have := HV.out
              rw [HD.out] at this
              simp only [EL.out, E.out] at this
              simpa using this
            case measure => simp [intOf]; omega
          · have e0 : sameB f.1 nm = false := by simpa using e
            have e' : (f.1.toList == nm.toList) = false := e0
            have E := Lib.hid e0
            clear e e0
            go_wp2_with (at_builtin; refine wp_append_File rfl (.tmp 28) (.tmp 32) rfl wr w.heap.size _ V (nm, d) _ rfl rfl O.out (by first | omega | (simp; omega)) (by have := BW.out.size; omega) ?_)
            intro v8 w8 hown8 hg8
            have O8 := Lib.hid hown8
            have B8 := Lib.hid (hg8 w BW.out (Nat.le_refl _))
            clear hown8 hg8
            have p1 := ((bcell B8.out).1 _ _ hg1).trans q1
            have p2 := ((bcell B8.out).1 _ _ hg1).trans q2
            go_wp2_with (at_builtin; refine wp_append_File rfl (.tmp 41) (.tmp 46) rfl w8 w.heap.size _ (V ++ [(nm, d)]) f _ rfl rfl O8.out (by first | omega | (simp; omega)) (by have := B8.out.size; omega) ?_)
            intro v9 w9 hown9 hg9
            have O9 := Lib.hid hown9
            have B9 := Lib.hid (hg9 w B8.out (Nat.le_refl _))
            clear hown9 hg9
            go_wp2
            go_roundw
            case rel =>
              refine ⟨k + 1, true, V ++ [(nm, d), f], by omega, by go_num, rfl, Lib.hid ?_, by first | omega | (simp; omega), O9.out, B9.out⟩
              have := HV.out
              rw [HD.out] at this
              simp only [EL.out, E.out] at this
              simpa using this
            case measure => simp [intOf]; omega
      | true =>
        have EL := Lib.hid (show ∀ b, (true || b) = true from fun b => rfl)
        by_cases e : sameB f.1 nm = true
        · have e' : (f.1.toList == nm.toList) = true := e
          have E := Lib.hid e
          clear e
          go_wp2
          go_roundw
          case rel =>
            refine ⟨k + 1, true, V, by omega, by go_num, rfl, Lib.hid ?_, by first | omega | (simp; omega), O.out, BW.out⟩
            have := HV.out
            rw [HD.out] at this
            simp only [EL.out, E.out] at this
            simpa using this
          case measure => simp [intOf]; omega
        · have e0 : sameB f.1 nm = false := by simpa using e
          have e' : (f.1.toList == nm.toList) = false := e0
          have E := Lib.hid e0
          clear e e0
          go_wp2_with (at_builtin; refine wp_append_File rfl (.tmp 41) (.tmp 46) rfl wr w.heap.size _ V f _ rfl rfl O.out (by first | omega | (simp; omega)) (by have := BW.out.size; omega) ?_)
          intro v8 w8 hown8 hg8
          have O8 := Lib.hid hown8
          have B8 := Lib.hid (hg8 w BW.out (Nat.le_refl _))
          clear hown8 hg8
          go_wp2
          go_roundw
          case rel =>
            refine ⟨k + 1, true, V ++ [f], by omega, by go_num, rfl, Lib.hid ?_, by first | omega | (simp; omega), O8.out, B8.out⟩
            have := HV.out
            rw [HD.out] at this
            simp only [EL.out, E.out] at this
            simpa using this
          case measure => simp [intOf]; omega
    · have ek : putK nm d (L.drop k) b = if b then [] else [(nm, d)] := by rw [List.drop_of_length_le (by have := HN.out; omega)]; rfl
      have HK := Lib.hid ek
      clear ek hown hbl
      cases b with
      | false =>
        go_wp2_with (at_builtin; refine wp_append_File rfl (.tmp 50) (.tmp 54) rfl wr w.heap.size _ V (nm, d) _ rfl rfl O.out (by first | omega | (simp; omega)) (by have := BW.out.size; omega) ?_)
        intro v8 w8 hown8 hg8
        have O8 := Lib.hid hown8
        have B8 := Lib.hid (hg8 w BW.out (Nat.le_refl _))
        clear hown8 hg8
        go_wp2
        go_ret
        have := HV.out
        rw [HK.out, HE.out] at this
        exact ⟨_, rfl, by rw [← this]; exact O8.out, B8.out⟩
      | true =>
        go_wp2
        go_ret
        have := HV.out
        rw [HK.out, HE.out] at this
        simp only [if_true, List.append_nil] at this
        exact ⟨_, rfl, by rw [← this]; exact O.out, BW.out⟩

end Go.Proofs.Ytipmjgciaalmbaa
