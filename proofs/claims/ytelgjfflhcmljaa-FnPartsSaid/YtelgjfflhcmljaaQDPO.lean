/-
  What is proved here: graphs that are drawn by a code for parts; plain facts on parts of a graph that is turned. No conditions beyond those that each theorem states.
-/
import Derived.Test.YtelgjfflhcmljaaQDC
import Derived.Test.YtelgjfflhcmljaaZG
set_option linter.unusedSimpArgs false
set_option linter.unusedVariables false
namespace Go.Proofs.Ytelgjfflhcmljaa
open Go.RowKit

set_option maxRecDepth 100000 in
set_option maxHeartbeats 1000000 in
theorem drawPartsOf_any (A : Option Addr) (n c : Nat) (w : World) (hn : n ≤ 1099511627776) (H : BytesAt w A n) :
    Calls Try.prog 73 #[.slice A n c] w (DrawnG0 w) := by
  have K := Lib.hid H
  clear H
  go_enter Try.func73, Try.ntmps73
  go_wp2_with fail
  refine (open_any A n c _ (K.out.bl (by repeat' (first | exact Bl.refl _ | with_reducible assumption | with_reducible refine Bl.drew_ ?_ | with_reducible refine Bl.drewN_ ?_ _ | with_reducible refine Bl.alloc_ ?_ _ | with_reducible refine Bl.trans_ ?_ (by assumption) | with_reducible refine Bl.trans_ ?_ (And.left (by assumption)))))).mono ?_
  rintro e w1 ⟨rfl, hr, hb, hlt⟩
  have R1 := Lib.hid (show RdAny w1 (w.heap.size + 1) A n c from by rw [World.size_alloc] at hr; exact hr)
  have B1 := Lib.hid hb
  have s1 := hb.size
  simp only [World.size_alloc] at s1 hlt
  clear hr hb
  go_wp2_with fail
  refine (graph_any 10 (w.heap.size + 1) A n c _ hn (by omega) (by omega) R1.out (fun h0 g off e => by have := K.out.lt' h0 g off e; omega)).mono ?_
  rintro e w2 ⟨N, A', l, c', L, rfl, hd, hr, hg⟩
  have D2 := Lib.hid hd
  have G2 := Lib.hid hg
  have s2 := hg.size
  have B2 := Lib.hid (show Bl (w.alloc (.cells #[.int .i64 0, .slice none 0 0] 29)) w2 from B1.out.grown_ hg (fun g e => by injection e with e; simp; omega))
  obtain ⟨r0, r1, fr0, fr1⟩ := Two.facts ((Two.new w (.int .i64 0) (.slice none 0 0)).bl B2.out)
  clear hd hr hg
  go_wp2
  refine bodyPost_ret (v := .agg #[.int .i64 N, .slice A' l c']) (by simp [results, Try.results73, go_sem, r0, r1, fr0, fr1]) rfl ?_
  have D3 := D2.out
  have B3 : Bl w w2 := (Bl.alloc_ (Bl.refl w) _).trans_ B2.out
  exact ⟨N, A', l, c', L, rfl, ⟨D3.1, D3.2.1, D3.2.2.1, ((D3.2.2.2.set_ (by show w.heap.size < w1.heap.size; omega) _).set_ (by show w.heap.size < w1.heap.size; omega) _).low (by omega)⟩, (B3.set_ (Nat.le_refl _) _).set_ (Nat.le_refl _) _⟩

theorem mutB_rev {q : Nat} {L : List Arc3} {u v : Nat} (ho : okB (q : Int) L = true) (hu : u < q) (hv : v < q) : mutB q (revL L) u v = mutB q L u v := by
  rw [Bool.eq_iff_iff, mutB_iff, mutB_iff, distL_of_turned ho (by omega) (by omega), distL_of_turned ho (by omega) (by omega)]
  exact And.comm
theorem firI_rev {q : Nat} {L : List Arc3} {v : Nat} (ho : okB (q : Int) L = true) (hv : v < q) : ∀ k, k ≤ q → firI q (revL L) k v = firI q L k v
  | 0, _ => rfl
  | k + 1, hk => by
    unfold firI
    rw [firI_rev ho hv k (by omega), mutB_rev ho (by omega) hv]
/-- A graph that is turned has the same parts. -/
theorem parts_rev {N : Int} {L : List Arc3} (ho : okB N L = true) : partsFL N (revL L) = partsFL N L := by
  have h1 := (okB_elim ho).1
  obtain ⟨q, rfl⟩ : ∃ q : Nat, N = q := ⟨N.toNat, by omega⟩
  unfold partsFL
  rw [if_pos ho, if_pos (revL_ok ho)]
  unfold partK
  refine List.map_congr_left fun v hv => ?_
  rw [List.mem_range] at hv
  have e : (q : Int).toNat = q := by omega
  rw [e] at hv ⊢
  exact firI_rev ho hv q (Nat.le_refl _)

end Go.Proofs.Ytelgjfflhcmljaa
