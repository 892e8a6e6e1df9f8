/-
  What is proved here: the walk of the exact law on WeightOf: at every graph and all nodes that can be read it returns true and leaves what was there as it was. No conditions beyond those that each theorem states.
-/
import Derived.Test.YtffjpfanmnkmgaaD2
import Derived.Test.YtffjpfanmnkmgaaB1
set_option linter.unusedSimpArgs false
set_option linter.unusedVariables false
namespace Go.Proofs.Ytffjpfanmnkmgaa
open Go.RowKit

theorem isEnds_iff {u v : Int} {a : Arc3} : isEnds u v a = true ↔ a.1 = u ∧ a.2.1 = v := by simp [isEnds]
theorem ahead_irrefl (a b : Int) : aheadB a b a b = false := by simp [aheadB]
theorem not_ends_of_ahead {u v : Int} {a : Arc3} (h : aheadB a.1 a.2.1 u v = true) : isEnds u v a = false := by
  cases he : isEnds u v a with
  | false => rfl
  | true =>
    obtain ⟨h1, h2⟩ := isEnds_iff.1 he
    rw [h1, h2, ahead_irrefl] at h
    cases h
theorem bs_wt {L : List Arc3} {u v : Int} {p : Nat} {f : Bool} (hs : SortedA L) (h : BsAt L u v p f) : (f = true → ∃ hp : p < L.length, wtL u v L = L[p].2.2) ∧ (f = false → wtL u v L = 0) := by
  obtain ⟨hp, hlo, hhi, hf⟩ := h
  refine ⟨fun ht => ?_, fun ht => ?_⟩
  · by_cases h' : p < L.length
    · rw [dif_pos h'] at hf
      exact ⟨h', wtL_at h' (by rw [← hf]; exact ht) fun j hj => not_ends_of_ahead (hlo j (by omega) hj)⟩
    · rw [dif_neg h', ht] at hf
      cases hf
  · refine wtL_none fun k hk => ?_
    rcases Nat.lt_or_ge k p with h' | h'
    · exact not_ends_of_ahead (hlo k hk h')
    · have hpl : p < L.length := by omega
      rw [dif_pos hpl, ht] at hf
      rcases Nat.lt_or_ge p k with h2 | h2
      · cases he : isEnds u v L[k] with
        | false => rfl
        | true =>
          obtain ⟨e1, e2⟩ := isEnds_iff.1 he
          have h3 := hs p k h2 hk
          rw [e1, e2, hhi p hpl (Nat.le_refl _)] at h3
          cases h3
      · obtain rfl : p = k := by omega
        exact hf.symm

set_option maxHeartbeats 400000 in
theorem placeOf_any (N u v : Int) (A : Option Addr) (n c : Nat) (L : List Arc3) (hn : n = L.length) (w : World) (hm : n ≤ 1048576) (hs : SortedA L) (H1 : ArcsAt w w.heap.size A L) :
    Calls Try.prog 122 #[.agg #[.int .i64 N, .slice A n c], .int .i64 u, .int .i64 v] w (BsPost L u v w) := by
  have K1 := Lib.hid H1
  have HN := Lib.hid hn
  have HS := Lib.hid hs
  clear H1 hn hs
  go_enter Try.func122, Try.ntmps122
  go_wp2_with fail
  refine (bs_any u v 0 A n c L HN.out _ hm HS.out (K1.out.bl (by repeat' (first | exact Bl.refl _ | with_reducible assumption | with_reducible refine Bl.drew_ ?_ | with_reducible refine Bl.drewN_ ?_ _ | with_reducible refine Bl.alloc_ ?_ _ | with_reducible refine Bl.trans_ ?_ (by assumption) | with_reducible refine Bl.trans_ ?_ (And.left (by assumption)))))).mono ?_
  rintro e w1 ⟨p, f, hp, rfl, hb1⟩
  have HP := Lib.hid hp
  clear hp
  go_wp2
  go_ret2
  exact ⟨p, f, HP.out, rfl, (by repeat' (first | exact Bl.refl _ | with_reducible assumption | with_reducible refine Bl.drew_ ?_ | with_reducible refine Bl.drewN_ ?_ _ | with_reducible refine Bl.alloc_ ?_ _ | with_reducible refine Bl.trans_ ?_ (by assumption) | with_reducible refine Bl.trans_ ?_ (And.left (by assumption))))⟩



end Go.Proofs.Ytffjpfanmnkmgaa
