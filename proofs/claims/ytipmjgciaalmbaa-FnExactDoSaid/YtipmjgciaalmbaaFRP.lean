/-
  What is proved here: the sum that stands in a frame: plain words on numbers. No conditions beyond those that each theorem states.
-/
import Derived.Test.YtipmjgciaalmbaaW1
import Derived.Laws.BitsAllLaws
import Derived.Laws.Shifts
set_option linter.unusedSimpArgs false
set_option linter.unusedVariables false
namespace Go.Proofs.Ytipmjgciaalmbaa
open Go.RowKit

/-- One bit of the sum. -/
def crcB (c : Nat) : Nat := if c % 2 = 1 then (c / 2) ^^^ 3988292384 else c / 2
def crcBits : Nat → Nat → Nat
  | 0, c => c
  | n + 1, c => crcB (crcBits n c)
/-- The sum behind k bytes. -/
def crcK (s : ByteArray) : Nat → Nat
  | 0 => 4294967295
  | k + 1 => crcBits 8 (crcK s k ^^^ (s.data.toList.getD k 0).toNat)
def crcAll (s : ByteArray) : Nat := 4294967295 ^^^ crcK s s.size

theorem crcB_lt {c : Nat} (h : c < 4294967296) : crcB c < 4294967296 := by
  unfold crcB
  split
  · exact Nat.xor_lt_two_pow (n := 32) (by omega) (by omega)
  · omega
theorem crcBits_lt : ∀ (n : Nat) {c : Nat}, c < 4294967296 → crcBits n c < 4294967296
  | 0, _, h => h
  | n + 1, c, h => crcB_lt (crcBits_lt n h)
theorem crcK_lt (s : ByteArray) : ∀ k, crcK s k < 4294967296
  | 0 => by simp [crcK]
  | k + 1 => crcBits_lt 8 (Nat.xor_lt_two_pow (n := 32) (crcK_lt s k) (by have := (s.data.toList.getD k 0).toNat_lt; omega))
theorem crcAll_lt (s : ByteArray) : crcAll s < 4294967296 := Nat.xor_lt_two_pow (n := 32) (by omega) (crcK_lt s _)
theorem byte_getD (s : ByteArray) (k : Nat) (h : k < s.size) : s.data.toList.getD k 0 = s[k] := by
  have h' : k < s.data.toList.length := by simpa using h
  rw [List.getD_eq_getElem?_getD, List.getElem?_eq_getElem h']
  simp [ByteArray.getElem_eq_getElem_data]
theorem crcK_succ (s : ByteArray) (k : Nat) (h : k < s.size) : crcK s (k + 1) = crcBits 8 (crcK s k ^^^ s[k].toNat) := by
  rw [← byte_getD s k h]; rfl
theorem xor0 {a : Nat} (h : a < 4294967296) : bits .xor .u32 (a : Int) 0 = (a : Int) := by
  have := u32_xor_nat a 0 h (by omega)
  simpa using this
theorem low_bit (c : Nat) (h : c < 4294967296) : bits .and .u32 (c : Int) 1 = ((c % 2 : Nat) : Int) := by
  have := u32_and_nat c 1 h (by omega)
  rw [Nat.and_one_is_mod] at this
  simpa using this
/-- One bit of the sum, as a product. -/
theorem crcB_mul (c : Nat) (h : c < 4294967296) : bits .xor .u32 ((c : Int) / 2) ((c % 2 : Nat) * 3988292384 : Int) = (crcB c : Int) := by
  have e : (c : Int) / 2 = ((c / 2 : Nat) : Int) := by omega
  rw [e]
  unfold crcB
  by_cases h1 : c % 2 = 1
  · rw [if_pos h1, h1]
    have := u32_xor_nat (c / 2) 3988292384 (by omega) (by omega)
    simpa using this
  · rw [if_neg h1, show c % 2 = 0 from by omega]
    have := xor0 (a := c / 2) (by omega)
    simpa using this
/-- The four bytes of a number, the lowest first. -/
def leBytes (c : Nat) : List UInt8 := [UInt8.ofNat c, UInt8.ofNat (c / 256), UInt8.ofNat (c / 65536), UInt8.ofNat (c / 16777216)]
/-- The four bytes of a number, the highest first. -/
def beBytes (c : Nat) : List UInt8 := [UInt8.ofNat (c / 16777216), UInt8.ofNat (c / 65536), UInt8.ofNat (c / 256), UInt8.ofNat c]
def sumBytes (c : Nat) : ByteArray := ⟨(leBytes c).toArray⟩
def headBytes (s : ByteArray) : ByteArray := ⟨(beBytes s.size ++ leBytes (crcAll s)).toArray⟩
/-- The frame of a text. -/
def frameB (s : ByteArray) : ByteArray := if 100000 < s.size then ByteArray.empty else headBytes s ++ s
theorem u8_ofNat_mod (n : Nat) : UInt8.ofNat (n % 256) = UInt8.ofNat n := by
  apply UInt8.toNat_inj.1
  simp

end Go.Proofs.Ytipmjgciaalmbaa
