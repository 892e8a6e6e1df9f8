/-
  What is proved here: the program's sum of a text. No conditions beyond those that each theorem states.
-/
import Derived.Test.YtebbgoknielkpaaFRP
import Derived.Laws.IdiomStrings
set_option linter.unusedSimpArgs false
set_option linter.unusedVariables false
namespace Go.Proofs.Ytebbgoknielkpaa
open Go.RowKit

set_option maxHeartbeats 1000000 in
theorem crcOf_any (s : ByteArray) (hs : s.size ≤ 1048576) (w : World) :
    Calls Try.prog 96 #[.string s] w fun e w' => e = .returned (.int .u32 (crcAll s : Int)) ∧ w = w' := by
  go_enter Try.func96, Try.ntmps96
  go_wp2
  go_loop [3, 8] (fun c i => ∃ k : Nat, k ≤ s.size ∧ i = .int .i64 k ∧ c = .int .u32 (crcK s k : Int)) (fun _ i => s.size - (intOf i).toNat)
  case atStart => exact ⟨0, by omega, rfl, rfl⟩
  case round =>
    obtain ⟨k, hk, rfl, rfl⟩ := hrel
    have hc := crcK_lt s k
    have HS := Lib.hid (crcK_succ s k)
    obtain ⟨c, hcc⟩ : ∃ c, c = crcK s k := ⟨_, rfl⟩
    rw [← hcc] at hc HS ⊢
    have HCC := Lib.hid hcc
    clear hcc
    by_cases hlt : k < s.size
    · have i1 : (0 : Int) ≤ (k : Int) := by omega
      have i2 : (k : Int) < (s.size : Int) := by omega
      go_wp2
      have hb := s[k].toNat_lt
      replace HS := Lib.hid (HS.out hlt)
      rw [show ((s[k].toNat : Int) % 4294967296) = (s[k].toNat : Int) from by omega, u32_xor_nat c s[k].toNat hc (by omega)]
      have hx : c ^^^ s[k].toNat < 4294967296 := Nat.xor_lt_two_pow (n := 32) hc (by omega)
      obtain ⟨x, hxx⟩ : ∃ x, x = c ^^^ s[k].toNat := ⟨_, rfl⟩
      rw [← hxx] at hx HS ⊢
      have HXX := Lib.hid hxx
      clear hxx hb
      go_loop [3, 17] (fun c i => ∃ j : Nat, j ≤ 8 ∧ i = .int .i64 j ∧ c = .int .u32 (crcBits j x : Int)) (fun _ i => 8 - (intOf i).toNat)
      case atStart => exact ⟨0, by omega, rfl, rfl⟩
      case round =>
        obtain ⟨j, hj, rfl, rfl⟩ := hrel
        have hy := crcBits_lt j hx
        have HJ := Lib.hid (show crcBits (j + 1) x = crcB (crcBits j x) from rfl)
        have HD := Lib.hid (show j = 8 → crcBits j x = crcBits 8 x from fun h => by rw [h])
        obtain ⟨y, hyy⟩ : ∃ y, y = crcBits j x := ⟨_, rfl⟩
        rw [← hyy] at hy HJ HD ⊢
        have HYY := Lib.hid hyy
        clear hyy
        by_cases hj8 : j < 8
        · have j1 : (j : Int) < 8 := by omega
          go_wp2
          go_round
          case rel =>
            refine ⟨j + 1, by omega, by go_num, ?_⟩
            have hl : ((y % 2 : Nat) : Int) * 3988292384 % 4294967296 = ((y % 2 : Nat) : Int) * 3988292384 := by
              have : y % 2 < 2 := Nat.mod_lt _ (by omega)
              omega
            rw [HJ.out, low_bit y hy, hl, crcB_mul y hy]
          case measure => simp [intOf]; omega
        · go_wp2
          go_round
          case rel =>
            refine ⟨k + 1, by omega, by go_num, ?_⟩
            rw [HD.out (by omega), HS.out]
          case measure => simp [intOf]; omega
    · go_wp2
      refine bodyPost_ret (v := .int .u32 (crcAll s : Int)) (by
        have e : crcAll s = 4294967295 ^^^ c := by unfold crcAll; rw [HCC.out, show k = s.size from by omega]
        have := u32_xor_nat 4294967295 c (by omega) hc
        rw [e, ← this]
        have hmx : IntKind.u32.max = 4294967295 := by decide
        simp [results, Try.results96, go_sem, hmx]) rfl ⟨rfl, rfl⟩

theorem conv_new (w : World) (l : List UInt8) (C : Array Value) (t : TypeId) (n : Nat) (hn : l.length = n) (hC : ∀ j (hj : j < l.length), C[j]? = some (.int .u8 (l[j].toNat : Int))) :
    (convert 29 9 (.slice (some ⟨w.heap.size, 0, none⟩) n n)).run Try.prog (w.alloc (.cells C t)) = .ok (.string ⟨l.toArray⟩) (w.alloc (.cells C t)) := by
  subst hn
  refine run_convert_bytes_back (P := Try.prog) _ 29 9 5 _ _ l (by kernel_rfl) (by kernel_rfl) (by kernel_rfl) (fun j hj => ?_)
  rw [Addr.add_lit, Nat.zero_add, World.cell?_alloc_mark]
  exact hC j hj
theorem u8_cell (a : Nat) : ((UInt8.ofNat a).toNat : Int) = (a : Int) % 256 := by
  rw [UInt8.toNat_ofNat']
  omega
theorem u8_cellk (a k : Nat) : ((UInt8.ofNat (a / k)).toNat : Int) = (a : Int) / (k : Int) % 256 := by
  rw [UInt8.toNat_ofNat']
  have : ((a / k : Nat) : Int) = (a : Int) / (k : Int) := by simp
  omega
theorem conv_sum (w : World) (c : Nat) :
    (convert 29 9 (.slice (some ⟨w.heap.size, 0, none⟩) 4 4)).run Try.prog (w.alloc (.cells #[.int .u8 ((c : Int) % 256), .int .u8 ((c : Int) / 256 % 256), .int .u8 ((c : Int) / 65536 % 256), .int .u8 ((c : Int) / 16777216 % 256)] 5)) = .ok (.string (sumBytes c)) (w.alloc (.cells #[.int .u8 ((c : Int) % 256), .int .u8 ((c : Int) / 256 % 256), .int .u8 ((c : Int) / 65536 % 256), .int .u8 ((c : Int) / 16777216 % 256)] 5)) := by
  refine conv_new w (leBytes c) _ _ 4 rfl (fun j hj => ?_)
  have h1 := u8_cell c
  have h2 := u8_cellk c 256
  have h3 := u8_cellk c 65536
  have h4 := u8_cellk c 16777216
  match j, hj with
  | 0, _ => show some _ = some _; simp only [leBytes, List.getElem_cons_zero]; rw [h1]; rfl
  | 1, _ => show some _ = some _; simp only [leBytes, List.getElem_cons_zero, List.getElem_cons_succ]; rw [h2]; rfl
  | 2, _ => show some _ = some _; simp only [leBytes, List.getElem_cons_zero, List.getElem_cons_succ]; rw [h3]; rfl
  | 3, _ => show some _ = some _; simp only [leBytes, List.getElem_cons_zero, List.getElem_cons_succ]; rw [h4]; rfl
set_option maxRecDepth 100000 in
set_option maxHeartbeats 1000000 in
theorem l16Sum_any (s : ByteArray) (hs : s.size ≤ 1048576) (w : World) :
    Calls Try.prog 52 #[.string s] w fun e w' => (∃ z, e = .returned (.string z) ∧ z = sumBytes (crcAll s)) ∧ Bl w w' := by
  go_enter Try.func52, Try.ntmps52
  go_wp2
  go_loop [3, 4] (fun c i => ∃ k : Nat, k ≤ s.size ∧ i = .int .i64 k ∧ c = .int .u32 (crcK s k : Int)) (fun _ i => s.size - (intOf i).toNat)
  case atStart => exact ⟨0, by omega, rfl, rfl⟩
  case round =>
    obtain ⟨k, hk, rfl, rfl⟩ := hrel
    have hc := crcK_lt s k
    have HS := Lib.hid (crcK_succ s k)
    obtain ⟨c, hcc⟩ : ∃ c, c = crcK s k := ⟨_, rfl⟩
    rw [← hcc] at hc HS ⊢
    have HCC := Lib.hid hcc
    clear hcc
    by_cases hlt : k < s.size
    · have i1 : (0 : Int) ≤ (k : Int) := by omega
      have i2 : (k : Int) < (s.size : Int) := by omega
      go_wp2
      have hb := s[k].toNat_lt
      replace HS := Lib.hid (HS.out hlt)
      rw [show ((s[k].toNat : Int) % 4294967296) = (s[k].toNat : Int) from by omega, u32_xor_nat c s[k].toNat hc (by omega)]
      have hx : c ^^^ s[k].toNat < 4294967296 := Nat.xor_lt_two_pow (n := 32) hc (by omega)
      obtain ⟨x, hxx⟩ : ∃ x, x = c ^^^ s[k].toNat := ⟨_, rfl⟩
      rw [← hxx] at hx HS ⊢
      have HXX := Lib.hid hxx
      clear hxx hb
      go_loop [3, 5] (fun c i => ∃ j : Nat, j ≤ 8 ∧ i = .int .i64 j ∧ c = .int .u32 (crcBits j x : Int)) (fun _ i => 8 - (intOf i).toNat)
      case atStart => exact ⟨0, by omega, rfl, rfl⟩
      case round =>
        obtain ⟨j, hj, rfl, rfl⟩ := hrel
        have hy := crcBits_lt j hx
        have HJ := Lib.hid (show crcBits (j + 1) x = crcB (crcBits j x) from rfl)
        have HD := Lib.hid (show j = 8 → crcBits j x = crcBits 8 x from fun h => by rw [h])
        obtain ⟨y, hyy⟩ : ∃ y, y = crcBits j x := ⟨_, rfl⟩
        rw [← hyy] at hy HJ HD ⊢
        have HYY := Lib.hid hyy
        clear hyy
        by_cases hj8 : j < 8
        · have j1 : (j : Int) < 8 := by omega
          by_cases hodd : (y : Int) % 2 = 1
          · go_wp2
            go_round
            case rel =>
              refine ⟨j + 1, by omega, by go_num, ?_⟩
              rw [HJ.out, ← crcB_mul y hy, show y % 2 = 1 from by omega]
              first | rfl | simp
            case measure => simp [intOf]; omega
          · go_wp2
            go_round
            case rel =>
              refine ⟨j + 1, by omega, by go_num, ?_⟩
              rw [HJ.out, crcB, if_neg (by omega)]
              first | rfl | simp
            case measure => simp [intOf]; omega
        · go_wp2
          go_round
          case rel =>
            refine ⟨k + 1, by omega, by go_num, ?_⟩
            rw [HD.out (by omega), HS.out]
          case measure => simp [intOf]; omega
    · have hx : bits .xor .u32 IntKind.u32.max (c : Int) = (crcAll s : Int) := by
        have e : crcAll s = 4294967295 ^^^ c := by unfold crcAll; rw [HCC.out, show k = s.size from by omega]
        have := u32_xor_nat 4294967295 c (by omega) hc
        have hmx : IntKind.u32.max = 4294967295 := by decide
        rw [e, ← this, hmx]
        rfl
      have hcv := conv_sum w (crcAll s)
      generalize hd : crcAll s = d at hx hcv
      have HD := Lib.hid hd
      clear hd
      go_wp2
      refine bodyPost_ret (v := .string (sumBytes d)) (by simp [results, Try.results52, go_sem]) rfl ⟨⟨_, rfl, ?_⟩, (by repeat' (first | exact Bl.refl _ | with_reducible assumption | with_reducible refine Bl.drew_ ?_ | with_reducible refine Bl.drewN_ ?_ _ | with_reducible refine Bl.alloc_ ?_ _ | with_reducible refine Bl.trans_ ?_ (by assumption) | with_reducible refine Bl.trans_ ?_ (And.left (by assumption))))⟩
      rw [HD.out]

end Go.Proofs.Ytebbgoknielkpaa
