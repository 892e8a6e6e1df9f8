/-
  What is proved here: the walk of the law on frames: at every code it returns true, and leaves what was there as it was. No conditions beyond those that each theorem states.
-/
import Derived.Test.YtebbgoknielkpaaFRE
import Derived.Test.YtebbgoknielkpaaFRU
set_option linter.unusedSimpArgs false
set_option linter.unusedVariables false
namespace Go.Proofs.Ytebbgoknielkpaa
open Go.RowKit

theorem taken_len (s : ByteArray) : (takeAll s).1.length ≤ s.size := stK_len s s.size
theorem catF_take {V : List ByteArray} {k : Nat} (h : k < V.length) : catF (V.take (k + 1)) = catF (V.take k) ++ frameB V[k] := by
  rw [List.take_succ_eq_append_getElem h, catF_snoc]
theorem StrsAt.take_ {w : World} {B : Nat} {A : Option Addr} {V : List ByteArray} (h : StrsAt w B A V) (m : Nat) : StrsAt w B A (V.take m) := by
  have := CellsAt.take_ h m
  unfold StrsAt csS
  rw [List.map_take]
  exact this

set_option maxRecDepth 100000 in
set_option maxHeartbeats 8000000 in
theorem lawFrames_any (A : Option Addr) (n c : Nat) (w : World) (H : BytesAt w A n) :
    Calls Try.prog 5 #[.slice A n c] w fun e w' => e = .returned (.bool true) ∧ Bl w w' := by
  have K := Lib.hid H
  clear H
  by_cases hbig : (1048576 : Int) < (n : Int)
  · have hb : decide ((1048576 : Int) < (n : Int)) = true := by simpa using hbig
    clear hbig
    go_enter Try.func5, Try.ntmps5
    go_wp2_with (go_at_call 22; refine (big_any _ _ _ _).mono ?_; rintro e w' ⟨rfl, rfl⟩)
    go_ret
    exact ⟨rfl, (by repeat' (first | exact Bl.refl _ | with_reducible assumption | with_reducible refine Bl.drew_ ?_ | with_reducible refine Bl.drewN_ ?_ _ | with_reducible refine Bl.alloc_ ?_ _ | with_reducible refine Bl.trans_ ?_ (by assumption) | with_reducible refine Bl.trans_ ?_ (And.left (by assumption))))⟩
  · have hb : decide ((1048576 : Int) < (n : Int)) = false := by simpa using hbig
    have hn : n ≤ 1099511627776 := by omega
    have hn2 : n ≤ 1048576 := by omega
    clear hbig
    go_enter Try.func5, Try.ntmps5
    go_wp2_with fail
    refine (big_any _ _ _ _).mono ?_
    rintro e w1 ⟨rfl, rfl⟩
    rw [hb]
    clear hb
    go_wp2_with fail
    refine (drawTake_any A n c _ hn K.out).mono ?_
    rintro e w1 ⟨s, rfl, hs, hb1⟩
    have B1 := Lib.hid hb1
    clear hb1
    go_wp2_with fail
    refine (implTake_any s (by omega) _).mono ?_
    rintro e w2 ⟨v2, rfl, hv2, hb2⟩
    obtain ⟨A2, c2, rfl, hc2, hA2, -, -⟩ := OwnS.shape hv2
    have V2 := Lib.hid hA2
    have B2 := Lib.hid (B1.out.trans_ hb2)
    clear hv2 hA2 hb2
    obtain ⟨T1, T2, T3⟩ := takeAll_cat s
    have TL := taken_len s
    have TC := Lib.hid (takeAll_catF (takeAll s).1 T3)
    obtain ⟨V, hV⟩ : ∃ V, V = (takeAll s).1 := ⟨_, rfl⟩
    obtain ⟨t2, ht2⟩ : ∃ t2, t2 = (takeAll s).2 := ⟨_, rfl⟩
    rw [← hV] at V2 T2 T3 TC TL hc2 ⊢
    rw [← ht2] at T1 T2 ⊢
    obtain ⟨l, hl⟩ : ∃ l, l = V.length := ⟨_, rfl⟩
    rw [← hl] at TL hc2 ⊢
    have HL := Lib.hid hl
    have HV := Lib.hid hV
    have HT := Lib.hid ht2
    have T3' := Lib.hid T3
    have T2' := Lib.hid T2
    clear hl hV ht2 T2 T3
    go_wp2_with fail
    refine (specTake_any s (by omega) _).mono ?_
    rintro e w3 ⟨v3, rfl, hv3, hb3⟩
    obtain ⟨A3, c3, rfl, -, hA3, -, -⟩ := OwnS.shape hv3
    have V3 := Lib.hid hA3
    have B3 := Lib.hid (B2.out.trans_ hb3)
    have V23 := Lib.hid (V2.out.bl hb3)
    clear hv3 hA3 hb3
    rw [← HV.out] at V3
    rw [← HV.out, ← HT.out, ← HL.out]
    go_wp2_with fail
    refine (sameTexts_yes A2 A3 c2 c3 V l HL.out _ (by omega) V23.out V3.out).mono ?_
    rintro e w4 ⟨rfl, hb4⟩
    have B4 := Lib.hid (B3.out.trans_ hb4)
    have V4 := Lib.hid (V23.out.bl hb4)
    clear hb4 V23 V3 V2
    have e1 : ((t2 : Int) != (t2 : Int)) = false := by simp
    have e2 : decide ((s.size : Int) < (t2 : Int)) = false := by rw [decide_eq_false_iff_not]; omega
    have e3 : ¬ (s.size < t2) := by omega
    go_wp2_with fail
    go_loopw [8, 9] (fun z i wr => ∃ (k : Nat) (y : ByteArray), k ≤ l ∧ i = .int .i64 (k : Int) ∧ z = .string y ∧ Hid (y = catF (V.take k)) ∧ y.size ≤ 100008 * k ∧ Bl w4 wr) (fun _ i _ => l - (intOf i).toNat)
    case atStart => exact ⟨0, ⟨#[]⟩, by omega, rfl, rfl, Lib.hid (by simp [catF]), by simp [ByteArray.size], Bl.refl _⟩
    case round =>
      obtain ⟨k, y, hk, rfl, rfl, HY, hys, hbl⟩ := hrel
      by_cases hlt : k < l
      · have hkl : k < V.length := by have := HL.out; omega
        obtain ⟨g1, o1, rfl, hg1, hc1⟩ := V4.out.cell (by omega)
        have p1 := hc1 k hkl
        clear hc1
        rw [← (bcell hbl).1 _ _ hg1] at p1
        have HC := Lib.hid (catF_take hkl)
        have hd := T3'.out V[k] (List.getElem_mem hkl)
        generalize V[k] = d at p1 HC hd
        have i1 : (0 : Int) ≤ (k : Int) := by omega
        have i2 : (k : Int) < (l : Int) := by omega
        have BX := Lib.hid hbl
        clear e1 e2 e3
        go_wp2_with fail
        refine (implFrame_any d (by omega) _).mono ?_
        rintro e w6 ⟨⟨f, rfl, hf⟩, hb6⟩
        have hfs : f.size ≤ 100008 := by rw [hf, frameB_size hd]; omega
        have HF := Lib.hid hf
        have B6 := Lib.hid (BX.out.trans_ hb6)
        clear hf hb6
        have n1 : ¬ (9223372036854775807 < y.size + f.size) := by omega
        go_wp2
        go_roundw
        case rel => exact ⟨k + 1, y ++ f, by omega, by go_num, rfl, Lib.hid (by rw [HY.out, HF.out, HC.out]), by rw [ByteArray.size_append]; omega, B6.out⟩
        case measure => simp [intOf]; omega
      · obtain rfl : k = l := by omega
        have hyc : y = catF V := by
          rw [HY.out, List.take_of_length_le (by have := HL.out; omega)]
        have hyx : y = s.extract 0 t2 := hyc.trans T2'.out
        have hyz : y.size = t2 := by rw [hyx, ByteArray.size_extract]; omega
        have HYC := Lib.hid hyc
        have HYX := Lib.hid hyx
        have BX := Lib.hid (B4.out.trans_ hbl)
        have V5 := Lib.hid (V4.out.bl hbl)
        clear hyc hyx hbl hys
        have KX := Lib.hid (show BytesAt _ A n from BytesAt.bl K.out BX.out)
        go_wp2_with fail
        refine (drawFrameOf_any A n c _ hn KX.out).mono ?_
        rintro e w6 ⟨x, rfl, hx, hb6⟩
        have B6 := Lib.hid (BX.out.trans_ hb6)
        have V6 := Lib.hid (V5.out.bl hb6)
        clear hb6
        go_wp2_with fail
        refine (implFrame_any x (by omega) _).mono ?_
        rintro e w7 ⟨⟨f, rfl, hf⟩, hb7⟩
        have hfs : f.size = 8 + x.size := by rw [hf]; exact frameB_size (by omega)
        have HF := Lib.hid hf
        have B7 := Lib.hid (B6.out.trans_ hb7)
        have V7 := Lib.hid (V6.out.bl hb7)
        clear hf hb7
        have n1 : ¬ (9223372036854775807 < y.size + f.size) := by omega
        have hyf : (y ++ f).size ≤ 1048576 := by rw [ByteArray.size_append]; omega
        have TX := Lib.hid (show takeAll (y ++ f) = (V ++ [x], y.size + f.size) from by
          rw [HYC.out, HF.out, ← catF_snoc, takeAll_catF (V ++ [x]) (fun d hd => by
            rcases List.mem_append.1 hd with hd | hd
            · exact T3'.out d hd
            · obtain rfl : d = x := by simpa using hd
              omega), catF_snoc, ByteArray.size_append])
        go_wp2_with fail
        refine (implTake_any (y ++ f) hyf _).mono ?_
        rintro e w8 ⟨v8, rfl, hv8, hb8⟩
        rw [TX.out] at hv8 ⊢
        obtain ⟨A8, c8, rfl, -, hA8, -, -⟩ := OwnS.shape hv8
        have V8 := Lib.hid hA8
        have B8 := Lib.hid (B7.out.trans_ hb8)
        have V28 := Lib.hid (V7.out.bl hb8)
        clear hv8 hA8 hb8
        have hl1 : (V ++ [x]).length = k + 1 := by have := HL.out; simp; omega
        simp only [hl1]
        obtain ⟨r, hr, hrt⟩ : ∃ r : Nat, (n : Int) % ((t2 : Int) + 1) = (r : Int) ∧ r ≤ t2 := by
          have h0 := Int.emod_nonneg (n : Int) (show ((t2 : Int) + 1) ≠ 0 from by omega)
          have h1 := Int.emod_lt_of_pos (n : Int) (show (0 : Int) < (t2 : Int) + 1 from by omega)
          exact ⟨((n : Int) % ((t2 : Int) + 1)).toNat, by omega, by omega⟩
        have hry : r ≤ y.size := by omega
        have hri : (r : Int) ≤ (t2 : Int) := by omega
        obtain ⟨p, hp⟩ : ∃ p, y.extract 0 r = p := ⟨_, rfl⟩
        have hpz : p.size ≤ 1048576 := by rw [← hp, ByteArray.size_extract]; omega
        have hpre : (takeAll p).1 <+: V := by
          have h := takeAll_begins (p := p) (s := y) (by rw [← hp]; exact begins_extract y r)
          rwa [show (takeAll y).1 = V from by rw [HYC.out, TC.out]] at h
        have HPRE := Lib.hid hpre
        clear hpre
        have e4 : ((k : Int) + 1 == (k : Int) + 1) = true := by simp
        have hyex : s.extract 0 t2 = y := HYX.out.symm
        have hye := str_self y
        go_wp2_with fail
        refine (implTake_any p hpz _).mono ?_
        rintro e w9 ⟨v9, rfl, hv9, hb9⟩
        obtain ⟨A9, c9, rfl, hc9, hA9, -, -⟩ := OwnS.shape hv9
        have V9 := Lib.hid hA9
        have B9 := Lib.hid (B8.out.trans_ hb9)
        have V29 := Lib.hid (V28.out.bl hb9)
        have V89 := Lib.hid (V8.out.bl hb9)
        clear hv9 hA9 hb9
        obtain ⟨W, hW⟩ : ∃ W, W = (takeAll p).1 := ⟨_, rfl⟩
        rw [← hW] at V9 HPRE hc9 ⊢
        obtain ⟨tp, htp⟩ : ∃ tp : Int, tp = ((takeAll p).2 : Int) := ⟨_, rfl⟩
        rw [← htp]
        obtain ⟨q, hq⟩ : ∃ q, q = W.length := ⟨_, rfl⟩
        rw [← hq] at hc9 ⊢
        have hqk : q ≤ k := by have h := HPRE.out.length_le; have := HL.out; omega
        have hqi : (q : Int) ≤ (k : Int) := by omega
        have HQ := Lib.hid hq
        have HW := Lib.hid hW
        clear hq hW htp
        have VQ := Lib.hid (show StrsAt w9 w9.heap.size A2 W from by
          have h := StrsAt.take_ V29.out q
          rwa [show V.take q = W from by rw [HQ.out]; exact (List.prefix_iff_eq_take.1 HPRE.out).symm] at h)
        obtain ⟨g8, o8, ea8, hg8, hc8⟩ := V89.out.cell (by rw [hl1]; omega)
        have p8 := hc8 k (by rw [hl1]; omega)
        have hx8 : (V ++ [x])[k]'(by rw [hl1]; omega) = x := by
          have := HL.out
          rw [List.getElem_append_right (by omega)]
          simp
        rw [hx8] at p8
        clear hc8 hx8
        subst ea8
        have hxe := str_self x
        have e5 : ((t2 : Int) + (8 + (x.size : Int)) == (t2 : Int) + (8 + (x.size : Int))) = true := by simp
        go_wp2_with fail
        refine (implFrame_any x (by omega) _).mono ?_
        rintro e w10 ⟨⟨f2, rfl, hf2⟩, hb10⟩
        have hf2s : f2.size = 8 + x.size := by rw [hf2]; exact frameB_size (by omega)
        have B10 := Lib.hid (B9.out.trans_ hb10)
        have V9' := Lib.hid (V9.out.bl hb10)
        have VQ' := Lib.hid (VQ.out.bl hb10)
        clear hf2 hb10
        go_wp2_with fail
        refine (sameTexts_yes A9 A2 c9 c2 W q HQ.out _ (by omega) V9'.out VQ'.out).mono ?_
        rintro e w11 ⟨rfl, hb11⟩
        have B11 := Lib.hid (B10.out.trans_ hb11)
        go_wp2
        go_ret
        exact ⟨rfl, B11.out⟩

end Go.Proofs.Ytebbgoknielkpaa
