/-
  What is proved here: plain words on the frames with which a text begins. No conditions beyond those that each theorem states.
-/
import Derived.Test.YtebbgoknielkpaaFRP
import Derived.Lib.Strings
import Derived.Lib.QuoteBits
set_option linter.unusedSimpArgs false
set_option linter.unusedVariables false
namespace Go.Proofs.Ytebbgoknielkpaa
open Go.RowKit

/-- The byte at i, as a number. -/
def byteN (s : ByteArray) (i : Nat) : Nat := (s.data.toList.getD i 0).toNat
theorem byteN_lt (s : ByteArray) (i : Nat) : byteN s i < 256 := UInt8.toNat_lt _
theorem byteN_at (s : ByteArray) (i : Nat) (h : i < s.size) : byteN s i = s[i].toNat := by
  unfold byteN; rw [byte_getD s i h]
/-- The number in the i bytes from a on, the highest first. -/
def sizeK (s : ByteArray) (a : Nat) : Nat → Nat
  | 0 => 0
  | i + 1 => 256 * sizeK s a i + byteN s (a + i)
def sizeAt (s : ByteArray) (a : Nat) : Nat := sizeK s a 4
theorem sizeK_lt (s : ByteArray) (a : Nat) : ∀ i, sizeK s a i < 256 ^ i
  | 0 => by simp [sizeK]
  | i + 1 => by
    have h1 := sizeK_lt s a i
    have h2 := byteN_lt s (a + i)
    show 256 * sizeK s a i + byteN s (a + i) < 256 ^ (i + 1)
    rw [Nat.pow_succ]
    omega
theorem sizeAt_lt (s : ByteArray) (a : Nat) : sizeAt s a < 4294967296 := sizeK_lt s a 4
theorem sizeAt_eq (s : ByteArray) (a : Nat) : sizeAt s a = 16777216 * byteN s a + 65536 * byteN s (a + 1) + 256 * byteN s (a + 2) + byteN s (a + 3) := by
  simp only [sizeAt, sizeK, Nat.add_zero]
  omega
/-- The data of a frame at a. -/
def dataAt (s : ByteArray) (a : Nat) : ByteArray := s.extract (a + 8) (a + 8 + sizeAt s a)
/-- A frame begins at a. -/
def isFrame (s : ByteArray) (a : Nat) : Bool :=
  decide (a + 8 ≤ s.size) && decide (sizeAt s a ≤ 100000) && decide (a + 8 + sizeAt s a ≤ s.size) && ((sumBytes (crcAll (dataAt s a))).toList == (s.extract (a + 4) (a + 8)).toList)
theorem isFrame_true {s : ByteArray} {a : Nat} (h : isFrame s a = true) : a + 8 ≤ s.size ∧ sizeAt s a ≤ 100000 ∧ a + 8 + sizeAt s a ≤ s.size ∧ ((sumBytes (crcAll (dataAt s a))).toList == (s.extract (a + 4) (a + 8)).toList) = true := by
  unfold isFrame at h
  rw [Bool.and_eq_true, Bool.and_eq_true, Bool.and_eq_true, decide_eq_true_eq, decide_eq_true_eq, decide_eq_true_eq] at h
  exact ⟨h.1.1.1, h.1.1.2, h.1.2, h.2⟩
theorem isFrame_no {s : ByteArray} {a : Nat} (h : ¬ (a + 8 ≤ s.size ∧ sizeAt s a ≤ 100000 ∧ a + 8 + sizeAt s a ≤ s.size)) : isFrame s a = false := by
  cases hf : isFrame s a with
  | false => rfl
  | true =>
    obtain ⟨h1, h2, h3, -⟩ := isFrame_true hf
    exact absurd ⟨h1, h2, h3⟩ h
theorem isFrame_eq {s : ByteArray} {a : Nat} (h1 : a + 8 ≤ s.size) (h2 : sizeAt s a ≤ 100000) (h3 : a + 8 + sizeAt s a ≤ s.size) : isFrame s a = ((sumBytes (crcAll (dataAt s a))).toList == (s.extract (a + 4) (a + 8)).toList) := by
  rw [Bool.eq_iff_iff]
  refine ⟨fun h => (isFrame_true h).2.2.2, fun h => ?_⟩
  unfold isFrame
  rw [Bool.and_eq_true, Bool.and_eq_true, Bool.and_eq_true, decide_eq_true_eq, decide_eq_true_eq, decide_eq_true_eq]
  exact ⟨⟨⟨h1, h2⟩, h3⟩, h⟩
/-- What has been taken behind k frames, and where. -/
def stK (s : ByteArray) : Nat → List ByteArray × Nat
  | 0 => ([], 0)
  | k + 1 => if isFrame s (stK s k).2 then ((stK s k).1 ++ [dataAt s (stK s k).2], (stK s k).2 + 8 + sizeAt s (stK s k).2) else stK s k
def takeAll (s : ByteArray) : List ByteArray × Nat := stK s s.size
theorem stK_yes {s : ByteArray} {k : Nat} {V : List ByteArray} {a : Nat} (h : stK s k = (V, a)) (hf : isFrame s a = true) : stK s (k + 1) = (V ++ [dataAt s a], a + 8 + sizeAt s a) := by
  show (if isFrame s (stK s k).2 then _ else _) = _
  rw [h, if_pos hf]
theorem stK_no {s : ByteArray} {k : Nat} {V : List ByteArray} {a : Nat} (h : stK s k = (V, a)) (hf : isFrame s a = false) : ∀ j, stK s (k + j) = (V, a)
  | 0 => h
  | j + 1 => by
    show (if isFrame s (stK s (k + j)).2 then _ else _) = _
    rw [stK_no h hf j, if_neg (by simp [hf])]
    exact stK_no h hf j
theorem takeAll_of {s : ByteArray} {k : Nat} {V : List ByteArray} {a : Nat} (h : stK s k = (V, a)) (hf : isFrame s a = false) (hk : k ≤ s.size) : takeAll s = (V, a) := by
  have := stK_no h hf (s.size - k)
  rwa [show k + (s.size - k) = s.size from by omega] at this
theorem stK_len (s : ByteArray) : ∀ k, (stK s k).1.length ≤ k
  | 0 => by simp [stK]
  | k + 1 => by
    have h := stK_len s k
    show (if isFrame s (stK s k).2 then _ else _ : List ByteArray × Nat).1.length ≤ _
    split
    · simp; omega
    · omega

theorem list_eq {a b : ByteArray} (h : a.data.toList = b.data.toList) : a = b := by
  cases a; cases b
  simp only at h
  rw [ByteArray.mk.injEq]
  exact Array.ext' h
/-- A piece of what stands from a on. -/
theorem extract_from (s : ByteArray) (a x y : Nat) (h : a + y ≤ s.size) : (s.extract a s.size).extract x y = s.extract (a + x) (a + y) := by
  apply list_eq
  rw [Lib.extract_data, Lib.extract_data, Lib.extract_data, List.drop_take, List.take_take, List.drop_drop]
  congr 1
  omega
theorem size_from (s : ByteArray) (a : Nat) (h : a ≤ s.size) : (s.extract a s.size).size = s.size - a := by
  rw [ByteArray.size_extract]; omega
theorem byteN_from (s : ByteArray) (a i : Nat) : byteN (s.extract a s.size) i = byteN s (a + i) := by
  unfold byteN
  rw [Lib.extract_data, List.take_of_length_le (by simp), List.getD_eq_getElem?_getD, List.getD_eq_getElem?_getD, List.getElem?_drop]
theorem sizeAt_from (s : ByteArray) (a : Nat) : sizeAt (s.extract a s.size) 0 = sizeAt s a := by
  rw [sizeAt_eq, sizeAt_eq, byteN_from, byteN_from, byteN_from, byteN_from]
  simp only [Nat.zero_add, Nat.add_zero]
theorem isFrame_from (s : ByteArray) (a : Nat) (h : a ≤ s.size) : isFrame (s.extract a s.size) 0 = isFrame s a ∧ (isFrame s a = true → dataAt (s.extract a s.size) 0 = dataAt s a) := by
  have hs := size_from s a h
  have hn := sizeAt_from s a
  have hd : a + 8 + sizeAt s a ≤ s.size → dataAt (s.extract a s.size) 0 = dataAt s a := fun hh => by
    unfold dataAt
    rw [hn, extract_from s a _ _ (by omega)]
    congr 1 <;> omega
  refine ⟨?_, fun hf => hd ?_⟩
  · unfold isFrame
    rw [hs, hn]
    by_cases h1 : a + 8 ≤ s.size
    · by_cases h2 : a + 8 + sizeAt s a ≤ s.size
      · rw [hd h2, extract_from s a _ _ (by omega)]
        have e1 : decide (0 + 8 ≤ s.size - a) = decide (a + 8 ≤ s.size) := by rw [decide_eq_decide]; omega
        have e2 : decide (0 + 8 + sizeAt s a ≤ s.size - a) = decide (a + 8 + sizeAt s a ≤ s.size) := by rw [decide_eq_decide]; omega
        rw [e1, e2]
      · have e1 : decide (0 + 8 + sizeAt s a ≤ s.size - a) = false := by rw [decide_eq_false_iff_not]; omega
        have e2 : decide (a + 8 + sizeAt s a ≤ s.size) = false := by rw [decide_eq_false_iff_not]; omega
        rw [e1, e2]; simp
    · have e1 : decide (0 + 8 ≤ s.size - a) = false := by rw [decide_eq_false_iff_not]; omega
      have e2 : decide (a + 8 ≤ s.size) = false := by rw [decide_eq_false_iff_not]; omega
      rw [e1, e2]; simp
  · unfold isFrame at hf
    simp only [Bool.and_eq_true, decide_eq_true_eq] at hf
    exact hf.1.2

/-- The head of a frame is there when its sum is, behind its size. -/
theorem head_sum (r : ByteArray) (d : ByteArray) (h8 : 8 ≤ r.size) (hd : d.size = sizeAt r 0) : ((headBytes d).toList == (r.extract 0 8).toList) = ((sumBytes (crcAll d)).toList == (r.extract 4 8).toList) := by
  have e1 : (headBytes d).toList = beBytes (sizeAt r 0) ++ (sumBytes (crcAll d)).toList := by
    rw [ByteArray.toList_eq, ByteArray.toList_eq, ← hd]; rfl
  have hl : 8 ≤ r.data.toList.length := by simpa using h8
  have e2 : (r.extract 0 8).toList = beBytes (sizeAt r 0) ++ (r.extract 4 8).toList := by
    rw [Lib.extract_toList, Lib.extract_toList]
    have hb : beBytes (sizeAt r 0) = r.data.toList.take 4 := by
      have q : ∀ i, i < 4 → (r.data.toList.take 4)[i]? = some (UInt8.ofNat (byteN r i)) := fun i hi => by
        rw [List.getElem?_take_of_lt hi, List.getElem?_eq_getElem (by omega)]
        unfold byteN
        rw [List.getD_eq_getElem?_getD, List.getElem?_eq_getElem (by omega)]
        simp
      have b0 := byteN_lt r 0
      have b1 := byteN_lt r 1
      have b2 := byteN_lt r 2
      have b3 := byteN_lt r 3
      have hs := sizeAt_eq r 0
      simp only [Nat.zero_add] at hs
      apply List.ext_getElem?
      intro i
      match i with
      | 0 => rw [q 0 (by omega)]; show some _ = some _; rw [show sizeAt r 0 / 16777216 = byteN r 0 from by omega]
      | 1 => rw [q 1 (by omega)]; show some _ = some _; rw [← u8_ofNat_mod (sizeAt r 0 / 65536), show sizeAt r 0 / 65536 % 256 = byteN r 1 from by omega]
      | 2 => rw [q 2 (by omega)]; show some _ = some _; rw [← u8_ofNat_mod (sizeAt r 0 / 256), show sizeAt r 0 / 256 % 256 = byteN r 2 from by omega]
      | 3 => rw [q 3 (by omega)]; show some _ = some _; rw [← u8_ofNat_mod (sizeAt r 0), show sizeAt r 0 % 256 = byteN r 3 from by omega]
      | i + 4 => rw [List.getElem?_eq_none (by simp [beBytes]), List.getElem?_eq_none (by simp; omega)]
    rw [hb]
    have := List.take_append_drop 4 (r.data.toList.take 8)
    rw [List.take_take, List.drop_take] at this
    exact this.symm
  rw [e1, e2, Bool.eq_iff_iff, beq_iff_eq, beq_iff_eq, List.append_cancel_left_eq]

/-- 'or' of four bytes at their places. -/
theorem or_nat (a b : Nat) (ha : a < 9223372036854775808) (hb : b < 9223372036854775808) : bits .or .i64 (a : Int) (b : Int) = ((a ||| b : Nat) : Int) := by
  have hx : a ||| b < 2 ^ 63 := Nat.or_lt_two_pow (by omega) (by omega)
  show IntKind.i64.wrap ((BitVec.ofInt 64 (a : Int) ||| BitVec.ofInt 64 (b : Int)).toNat : Int) = _
  rw [BitVec.toNat_or, ofInt_u64 a (by omega), ofInt_u64 b (by omega)]
  exact Lib.wrap_i64_small _ (by omega)
theorem or4 (a b c d : Nat) (ha : a < 256) (hb : b < 256) (hc : c < 256) (hd : d < 256) :
    bits .or .i64 (bits .or .i64 (bits .or .i64 ((a : Int) * 16777216) ((b : Int) * 65536)) ((c : Int) * 256)) (d : Int) = ((16777216 * a + 65536 * b + 256 * c + d : Nat) : Int) := by
  rw [show (a : Int) * 16777216 = ((2 ^ 24 * a : Nat) : Int) from by omega, show (b : Int) * 65536 = ((65536 * b : Nat) : Int) from by omega, show (c : Int) * 256 = ((256 * c : Nat) : Int) from by omega]
  rw [or_nat _ _ (by omega) (by omega), ← Nat.two_pow_add_eq_or_of_lt (by omega) a]
  rw [show 2 ^ 24 * a + 65536 * b = 2 ^ 16 * (256 * a + b) from by omega, or_nat _ _ (by omega) (by omega), ← Nat.two_pow_add_eq_or_of_lt (by omega) (256 * a + b)]
  rw [show 2 ^ 16 * (256 * a + b) + 256 * c = 2 ^ 8 * (65536 * a + 256 * b + c) from by omega, or_nat _ _ (by omega) (by omega), ← Nat.two_pow_add_eq_or_of_lt (by omega) (65536 * a + 256 * b + c)]
  all_goals (try omega)

end Go.Proofs.Ytebbgoknielkpaa
