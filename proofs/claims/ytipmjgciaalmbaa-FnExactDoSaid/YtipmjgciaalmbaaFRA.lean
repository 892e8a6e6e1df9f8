/-
  What is proved here: the program's sum of a text. No conditions beyond those that each theorem states.
-/
import Derived.Test.YtipmjgciaalmbaaFRP
import Derived.Laws.IdiomStrings
set_option linter.unusedSimpArgs false
set_option linter.unusedVariables false
namespace Go.Proofs.Ytipmjgciaalmbaa
open Go.RowKit

-- (crcOf_any left out)

theorem conv_new (w : World) (l : List UInt8) (C : Array Value) (t : TypeId) (n : Nat) (hn : l.length = n) (hC : ∀ j (hj : j < l.length), C[j]? = some (.int .u8 (l[j].toNat : Int))) :
    (convert 57 9 (.slice (some ⟨w.heap.size, 0, none⟩) n n)).run Try.prog (w.alloc (.cells C t)) = .ok (.string ⟨l.toArray⟩) (w.alloc (.cells C t)) := by
  subst hn
  refine run_convert_bytes_back (P := Try.prog) _ 57 9 5 _ _ l (by kernel_rfl) (by kernel_rfl) (by kernel_rfl) (fun j hj => ?_)
  rw [Addr.add_lit, Nat.zero_add, World.cell?_alloc_mark]
  exact hC j hj
theorem u8_cell (a : Nat) : ((UInt8.ofNat a).toNat : Int) = (a : Int) % 256 := by
  rw [UInt8.toNat_ofNat']
  omega
theorem u8_cellk (a k : Nat) : ((UInt8.ofNat (a / k)).toNat : Int) = (a : Int) / (k : Int) % 256 := by
  rw [UInt8.toNat_ofNat']
  have : ((a / k : Nat) : Int) = (a : Int) / (k : Int) := by simp
  omega
theorem conv_sum (w : World) (c : Nat) :
    (convert 57 9 (.slice (some ⟨w.heap.size, 0, none⟩) 4 4)).run Try.prog (w.alloc (.cells #[.int .u8 ((c : Int) % 256), .int .u8 ((c : Int) / 256 % 256), .int .u8 ((c : Int) / 65536 % 256), .int .u8 ((c : Int) / 16777216 % 256)] 5)) = .ok (.string (sumBytes c)) (w.alloc (.cells #[.int .u8 ((c : Int) % 256), .int .u8 ((c : Int) / 256 % 256), .int .u8 ((c : Int) / 65536 % 256), .int .u8 ((c : Int) / 16777216 % 256)] 5)) := by
  refine conv_new w (leBytes c) _ _ 4 rfl (fun j hj => ?_)
  have h1 := u8_cell c
  have h2 := u8_cellk c 256
  have h3 := u8_cellk c 65536
  have h4 := u8_cellk c 16777216
  match j, hj with
  | 0, _ => show some _ = some _; simp only [leBytes, List.getElem_cons_zero]; rw [h1]; rfl
  | 1, _ => show some _ = some _; simp only [leBytes, List.getElem_cons_zero, List.getElem_cons_succ]; rw [h2]; rfl
  | 2, _ => show some _ = some _; simp only [leBytes, List.getElem_cons_zero, List.getElem_cons_succ]; rw [h3]; rfl
  | 3, _ => show some _ = some _; simp only [leBytes, List.getElem_cons_zero, List.getElem_cons_succ]; rw [h4]; rfl
-- (l16Sum_any left out)

end Go.Proofs.Ytipmjgciaalmbaa
