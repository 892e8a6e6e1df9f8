/-
  What is proved here: the reader of a code hands out numbers now and then outside of bounds, and nodes; contracts of the small functions that the exact laws on graphs go by; the order of two arcs' ends as the code takes it (cmp.Or over two comparisons); two slices of arcs that read as one list are told to be the same; toArcS and toGraph make new memory that reads as what they are handed; impl.GraphOk tells just whether a graph is right. No conditions beyond those that each theorem states.
-/
import Derived.Test.YtffjpfanmnkmgaaJRB
import Derived.Test.YtffjpfanmnkmgaaJG01
import Derived.WalkKit
import Derived.WalkSpells
import Derived.WalkLawsBesides
import Derived.Handy
import Derived.Lib.Hide
import Derived.Deep.RegionHeld3
import Derived.Deep.QuietTactic
import Derived.BigQuiet
import Derived.StillTailTactics
import Derived.Deep.RegionWith
import Derived.Laws.MakeOwn
import Derived.Deep.OwnRows
import Derived.Laws.OwnMore
set_option linter.unusedSimpArgs false
set_option linter.unusedVariables false
namespace Go.Proofs.Ytffjpfanmnkmgaa
open Go.RowKit



set_option maxHeartbeats 2000000 in
theorem node_any (N : Int) (v : Value) (rd : Nat) (A : Option Addr) (n c : Nat) (w : World) (hn : n ≤ 1099511627776) (h0 : -9223372036854775808 ≤ N) (h1 : N ≤ 9223372036854775807) (HR : RdAny w rd A n c) :
    Calls Try.prog 85 #[.pointer (some ⟨rd, 0, none⟩), .agg #[.int .i64 N, v]] w (RdPost In64 rd A n c w) := by
  have R := Lib.hid HR
  have hlt := HR.lt
  clear HR
  go_enter Try.func85, Try.ntmps85
  go_wp2_with fail
  refine (once_any 30 rd A n c _ hn (by omega) (by omega) (R.out.bl (Bl.alloc_ (Bl.refl w) _))).mono ?_
  rintro e w1 ⟨b, rfl, hr, hg⟩
  have R1 := Lib.hid hr
  have q0 : w1.cell? ⟨w.heap.size, 0, none⟩ = some (.int .i64 N) := hg.cell (by simp [go_sem]) (by simp; omega)
  have G1 := Lib.hid (grown_trans (bl_grown (Bl.alloc_ (Bl.refl w) _) _) hg)
  clear hr hg
  have hb := wrap64_bounds (N - 1)
  cases b with
  | true =>
    go_wp2_with fail
    refine (off_any 0 (wrap64 (N - 1)) rd A n c _ hn (by omega) (by omega) hb.1 hb.2 R1.out).mono ?_
    rintro e w2 ⟨d, hd, rfl, hr, hg⟩
    have HD := Lib.hid hd
    have R2 := Lib.hid hr
    have G2 := Lib.hid hg
    clear hr hg hd
    go_wp2
    go_ret
    exact ⟨d, HD.out, rfl, R2.out, grown_trans G1.out G2.out⟩
  | false =>
    go_wp2_with fail
    all_goals (refine (below_any _ rd A n c _ hn (by omega) R1.out).mono ?_; rintro e w2 ⟨d, hd, rfl, hr, hg⟩; have HD := Lib.hid (show In64 d from by unfold In64; omega); have R2 := Lib.hid hr; have G2 := Lib.hid hg; clear hr hg hd)
    all_goals (go_wp2; go_ret; exact ⟨d, HD.out, rfl, R2.out, grown_trans G1.out G2.out⟩)

end Go.Proofs.Ytffjpfanmnkmgaa

set_option linter.unusedSimpArgs false
set_option linter.unusedVariables false
namespace Go.Proofs.Ytffjpfanmnkmgaa
open Go.RowKit



/-- The order of two numbers, as a number. -/
def cmpI (a b : Int) : Int := if a < b then -1 else if b < a then 1 else 0
theorem cmpI_lt {a b : Int} (h : a < b) : cmpI a b = -1 := by simp [cmpI, h]
theorem cmpI_gt {a b : Int} (h : b < a) : cmpI a b = 1 := by
  unfold cmpI
  rw [if_neg (by omega), if_pos h]
theorem cmpI_eq {a b : Int} (h1 : ¬ a < b) (h2 : ¬ b < a) : cmpI a b = 0 := by
  unfold cmpI
  rw [if_neg h1, if_neg h2]
/-- Is an arc of these ends ahead of another one? -/
def aheadB (a b c d : Int) : Bool := decide (a < c ∨ a = c ∧ b < d)
/-- May an arc lead from u to v, of n nodes? -/
def pairB (n u v : Int) : Bool := decide ((0 ≤ u ∧ u < n) ∧ (0 ≤ v ∧ v < n) ∧ u ≠ v)
/-- May an arc be so, of n nodes? -/
def arcB (n u v x : Int) : Bool := decide (((0 ≤ u ∧ u < n) ∧ (0 ≤ v ∧ v < n) ∧ u ≠ v) ∧ 1 ≤ x ∧ x ≤ 1000)

/-- Is a number among those from lo to hi? -/
def inB (n lo hi : Int) : Bool := decide (lo ≤ n ∧ n ≤ hi)
/-- Is v a node of n, as the model reckons it? -/
def nodeB (n v : Int) : Bool := inB v 0 (wrap64 (n - 1))

set_option maxHeartbeats 400000 in
theorem l1In_any (n lo hi : Int) (w : World) :
    Calls Try.prog 65 #[.int .i64 n, .int .i64 lo, .int .i64 hi] w fun e w' => e = .returned (.bool (inB n lo hi)) ∧ w = w' := by
  by_cases h1 : lo ≤ n
  · by_cases h2 : n ≤ hi
    · go_enter Try.func65, Try.ntmps65
      go_wp2
      go_ret
      exact ⟨ret_bool (by simp [inB]; omega), rfl⟩
    · go_enter Try.func65, Try.ntmps65
      go_wp2
      go_ret
      exact ⟨ret_bool (by simp [inB]; omega), rfl⟩
  · go_enter Try.func65, Try.ntmps65
    go_wp2
    go_ret
    exact ⟨ret_bool (by simp [inB]; omega), rfl⟩

set_option maxHeartbeats 400000 in
theorem l1Node_any (n v : Int) (x : Value) (w : World) :
    Calls Try.prog 76 #[.agg #[.int .i64 n, x], .int .i64 v] w fun e w' => e = .returned (.bool (nodeB n v)) ∧ Bl w w' := by
  go_enter Try.func76, Try.ntmps76
  go_wp2_with (go_at_call 65; refine (l1In_any _ _ _ _).mono ?_; rintro e w' ⟨rfl, rfl⟩)
  go_ret
  exact ⟨ret_bool rfl, (by repeat' (first | exact Bl.refl _ | with_reducible assumption | with_reducible refine Bl.drew_ ?_ | with_reducible refine Bl.drewN_ ?_ _ | with_reducible refine Bl.alloc_ ?_ _ | with_reducible refine Bl.trans_ ?_ (by assumption) | with_reducible refine Bl.trans_ ?_ (And.left (by assumption))))⟩

set_option maxHeartbeats 400000 in
theorem isNode_any (n v : Int) (x : Value) (w : World) :
    Calls Try.prog 116 #[.agg #[.int .i64 n, x], .int .i64 v] w fun e w' => e = .returned (.bool (decide (0 ≤ v ∧ v < n))) ∧ Bl w w' := by
  by_cases h1 : 0 ≤ v
  · by_cases h2 : v < n
    · go_enter Try.func116, Try.ntmps116
      go_wp2
      go_ret
      exact ⟨ret_bool (by simp; omega), (by repeat' (first | exact Bl.refl _ | with_reducible assumption | with_reducible refine Bl.drew_ ?_ | with_reducible refine Bl.drewN_ ?_ _ | with_reducible refine Bl.alloc_ ?_ _ | with_reducible refine Bl.trans_ ?_ (by assumption) | with_reducible refine Bl.trans_ ?_ (And.left (by assumption))))⟩
    · go_enter Try.func116, Try.ntmps116
      go_wp2
      go_ret
      exact ⟨ret_bool (by simp; omega), (by repeat' (first | exact Bl.refl _ | with_reducible assumption | with_reducible refine Bl.drew_ ?_ | with_reducible refine Bl.drewN_ ?_ _ | with_reducible refine Bl.alloc_ ?_ _ | with_reducible refine Bl.trans_ ?_ (by assumption) | with_reducible refine Bl.trans_ ?_ (And.left (by assumption))))⟩
  · go_enter Try.func116, Try.ntmps116
    go_wp2
    go_ret
    exact ⟨ret_bool (by simp; omega), (by repeat' (first | exact Bl.refl _ | with_reducible assumption | with_reducible refine Bl.drew_ ?_ | with_reducible refine Bl.drewN_ ?_ _ | with_reducible refine Bl.alloc_ ?_ _ | with_reducible refine Bl.trans_ ?_ (by assumption) | with_reducible refine Bl.trans_ ?_ (And.left (by assumption))))⟩

set_option maxHeartbeats 400000 in
theorem isNaN_any (n : Int) (w : World) :
    Calls Try.prog 155 #[.int .i64 n] w fun e w' => e = .returned (.bool false) ∧ w = w' := by
  go_enter Try.func155, Try.ntmps155
  go_wp2
  go_ret
  exact ⟨ret_bool (by simp), rfl⟩

set_option maxHeartbeats 400000 in
theorem cmp_any (a b : Int) (w : World) :
    Calls Try.prog 134 #[.int .i64 a, .int .i64 b] w fun e w' => e = .returned (.int .i64 (cmpI a b)) ∧ w = w' := by
  by_cases h1 : a < b
  · go_enter Try.func134, Try.ntmps134
    go_wp2_with (go_at_call 155; refine (isNaN_any _ _).mono ?_; rintro e w' ⟨rfl, rfl⟩)
    go_ret
    exact ⟨ret_int (cmpI_lt h1).symm, rfl⟩
  · by_cases h2 : b < a
    · go_enter Try.func134, Try.ntmps134
      go_wp2_with (go_at_call 155; refine (isNaN_any _ _).mono ?_; rintro e w' ⟨rfl, rfl⟩)
      go_ret
      exact ⟨ret_int (cmpI_gt h2).symm, rfl⟩
    · go_enter Try.func134, Try.ntmps134
      go_wp2_with (go_at_call 155; refine (isNaN_any _ _).mono ?_; rintro e w' ⟨rfl, rfl⟩)
      go_ret
      exact ⟨ret_int (cmpI_eq (by omega) (by omega)).symm, rfl⟩

set_option maxHeartbeats 400000 in
theorem l1Ahead_any (a b x c d y : Int) (w : World) :
    Calls Try.prog 119 #[.agg #[.int .i64 a, .int .i64 b, .int .i64 x], .agg #[.int .i64 c, .int .i64 d, .int .i64 y]] w fun e w' => e = .returned (.bool (aheadB a b c d)) ∧ Bl w w' := by
  by_cases h1 : a < c
  · go_enter Try.func119, Try.ntmps119
    go_wp2
    go_ret
    exact ⟨ret_bool (by simp [aheadB]; omega), (by repeat' (first | exact Bl.refl _ | with_reducible assumption | with_reducible refine Bl.drew_ ?_ | with_reducible refine Bl.drewN_ ?_ _ | with_reducible refine Bl.alloc_ ?_ _ | with_reducible refine Bl.trans_ ?_ (by assumption) | with_reducible refine Bl.trans_ ?_ (And.left (by assumption))))⟩
  · by_cases h2 : a = c
    · subst h2
      by_cases h3 : b < d
      · go_enter Try.func119, Try.ntmps119
        go_wp2
        go_ret
        exact ⟨ret_bool (by simp [aheadB]; omega), (by repeat' (first | exact Bl.refl _ | with_reducible assumption | with_reducible refine Bl.drew_ ?_ | with_reducible refine Bl.drewN_ ?_ _ | with_reducible refine Bl.alloc_ ?_ _ | with_reducible refine Bl.trans_ ?_ (by assumption) | with_reducible refine Bl.trans_ ?_ (And.left (by assumption))))⟩
      · go_enter Try.func119, Try.ntmps119
        go_wp2
        go_ret
        exact ⟨ret_bool (by simp [aheadB]; omega), (by repeat' (first | exact Bl.refl _ | with_reducible assumption | with_reducible refine Bl.drew_ ?_ | with_reducible refine Bl.drewN_ ?_ _ | with_reducible refine Bl.alloc_ ?_ _ | with_reducible refine Bl.trans_ ?_ (by assumption) | with_reducible refine Bl.trans_ ?_ (And.left (by assumption))))⟩
    · go_enter Try.func119, Try.ntmps119
      go_wp2
      go_ret
      exact ⟨ret_bool (by simp [aheadB]; omega), (by repeat' (first | exact Bl.refl _ | with_reducible assumption | with_reducible refine Bl.drew_ ?_ | with_reducible refine Bl.drewN_ ?_ _ | with_reducible refine Bl.alloc_ ?_ _ | with_reducible refine Bl.trans_ ?_ (by assumption) | with_reducible refine Bl.trans_ ?_ (And.left (by assumption))))⟩



set_option maxHeartbeats 400000 in
theorem isPair_any (n u v : Int) (x : Value) (w : World) :
    Calls Try.prog 154 #[.agg #[.int .i64 n, x], .int .i64 u, .int .i64 v] w fun e w' => e = .returned (.bool (pairB n u v)) ∧ Bl w w' := by
  by_cases h1 : 0 ≤ u ∧ u < n
  · by_cases h2 : 0 ≤ v ∧ v < n
    · by_cases h3 : u = v
      · subst h3
        go_enter Try.func154, Try.ntmps154
        go_wp2_with (go_at_call 116; refine (isNode_any _ _ _ _).mono ?_; rintro e w' ⟨rfl, hb⟩; obtain ⟨hc, hf⟩ := bcell hb)
        go_ret
        exact ⟨ret_bool (by simp [pairB]), (by repeat' (first | exact Bl.refl _ | with_reducible assumption | with_reducible refine Bl.drew_ ?_ | with_reducible refine Bl.drewN_ ?_ _ | with_reducible refine Bl.alloc_ ?_ _ | with_reducible refine Bl.trans_ ?_ (by assumption) | with_reducible refine Bl.trans_ ?_ (And.left (by assumption))))⟩
      · have h3' : (u != v) = true := by simpa using h3
        go_enter Try.func154, Try.ntmps154
        go_wp2_with (go_at_call 116; refine (isNode_any _ _ _ _).mono ?_; rintro e w' ⟨rfl, hb⟩; obtain ⟨hc, hf⟩ := bcell hb)
        go_ret
        exact ⟨ret_bool (by simp [pairB]; omega), (by repeat' (first | exact Bl.refl _ | with_reducible assumption | with_reducible refine Bl.drew_ ?_ | with_reducible refine Bl.drewN_ ?_ _ | with_reducible refine Bl.alloc_ ?_ _ | with_reducible refine Bl.trans_ ?_ (by assumption) | with_reducible refine Bl.trans_ ?_ (And.left (by assumption))))⟩
    · go_enter Try.func154, Try.ntmps154
      go_wp2_with (go_at_call 116; refine (isNode_any _ _ _ _).mono ?_; rintro e w' ⟨rfl, hb⟩; obtain ⟨hc, hf⟩ := bcell hb)
      go_ret
      exact ⟨ret_bool (by simp [pairB]; omega), (by repeat' (first | exact Bl.refl _ | with_reducible assumption | with_reducible refine Bl.drew_ ?_ | with_reducible refine Bl.drewN_ ?_ _ | with_reducible refine Bl.alloc_ ?_ _ | with_reducible refine Bl.trans_ ?_ (by assumption) | with_reducible refine Bl.trans_ ?_ (And.left (by assumption))))⟩
  · go_enter Try.func154, Try.ntmps154
    go_wp2_with (go_at_call 116; refine (isNode_any _ _ _ _).mono ?_; rintro e w' ⟨rfl, hb⟩; obtain ⟨hc, hf⟩ := bcell hb)
    go_ret
    exact ⟨ret_bool (by simp [pairB]; omega), (by repeat' (first | exact Bl.refl _ | with_reducible assumption | with_reducible refine Bl.drew_ ?_ | with_reducible refine Bl.drewN_ ?_ _ | with_reducible refine Bl.alloc_ ?_ _ | with_reducible refine Bl.trans_ ?_ (by assumption) | with_reducible refine Bl.trans_ ?_ (And.left (by assumption))))⟩

theorem arcB_no {n u v x : Int} (h : pairB n u v = false) : arcB n u v x = false := by
  simp [pairB, arcB] at *
  omega
theorem arcB_yes {n u v x : Int} (h : pairB n u v = true) : arcB n u v x = decide (1 ≤ x ∧ x ≤ 1000) := by
  simp [pairB, arcB] at *
  omega

set_option maxHeartbeats 400000 in
theorem arcOk_any (n u v x : Int) (g : Value) (w : World) :
    Calls Try.prog 131 #[.agg #[.int .i64 n, g], .agg #[.int .i64 u, .int .i64 v, .int .i64 x]] w fun e w' => e = .returned (.bool (arcB n u v x)) ∧ Bl w w' := by
  by_cases h1 : pairB n u v = true
  · have ha := Lib.hid (arcB_yes (x := x) h1)
    by_cases h2 : 1 ≤ x
    · by_cases h3 : x ≤ 1000
      · go_enter Try.func131, Try.ntmps131
        go_wp2_with (go_at_call 154; refine (isPair_any _ _ _ _ _).mono ?_; rintro e w' ⟨rfl, hb⟩; obtain ⟨hc, hf⟩ := bcell hb)
        go_ret
        exact ⟨ret_bool (by rw [ha.out]; simp; omega), (by repeat' (first | exact Bl.refl _ | with_reducible assumption | with_reducible refine Bl.drew_ ?_ | with_reducible refine Bl.drewN_ ?_ _ | with_reducible refine Bl.alloc_ ?_ _ | with_reducible refine Bl.trans_ ?_ (by assumption) | with_reducible refine Bl.trans_ ?_ (And.left (by assumption))))⟩
      · go_enter Try.func131, Try.ntmps131
        go_wp2_with (go_at_call 154; refine (isPair_any _ _ _ _ _).mono ?_; rintro e w' ⟨rfl, hb⟩; obtain ⟨hc, hf⟩ := bcell hb)
        go_ret
        exact ⟨ret_bool (by rw [ha.out]; simp; omega), (by repeat' (first | exact Bl.refl _ | with_reducible assumption | with_reducible refine Bl.drew_ ?_ | with_reducible refine Bl.drewN_ ?_ _ | with_reducible refine Bl.alloc_ ?_ _ | with_reducible refine Bl.trans_ ?_ (by assumption) | with_reducible refine Bl.trans_ ?_ (And.left (by assumption))))⟩
    · go_enter Try.func131, Try.ntmps131
      go_wp2_with (go_at_call 154; refine (isPair_any _ _ _ _ _).mono ?_; rintro e w' ⟨rfl, hb⟩; obtain ⟨hc, hf⟩ := bcell hb)
      go_ret
      exact ⟨ret_bool (by rw [ha.out]; simp; omega), (by repeat' (first | exact Bl.refl _ | with_reducible assumption | with_reducible refine Bl.drew_ ?_ | with_reducible refine Bl.drewN_ ?_ _ | with_reducible refine Bl.alloc_ ?_ _ | with_reducible refine Bl.trans_ ?_ (by assumption) | with_reducible refine Bl.trans_ ?_ (And.left (by assumption))))⟩
  · have h1' : pairB n u v = false := by simpa using h1
    have ha := Lib.hid (arcB_no (x := x) h1')
    clear h1
    go_enter Try.func131, Try.ntmps131
    go_wp2_with (go_at_call 154; refine (isPair_any _ _ _ _ _).mono ?_; rintro e w' ⟨rfl, hb⟩; obtain ⟨hc, hf⟩ := bcell hb)
    go_ret
    exact ⟨ret_bool (by rw [ha.out]), (by repeat' (first | exact Bl.refl _ | with_reducible assumption | with_reducible refine Bl.drew_ ?_ | with_reducible refine Bl.drewN_ ?_ _ | with_reducible refine Bl.alloc_ ?_ _ | with_reducible refine Bl.trans_ ?_ (by assumption) | with_reducible refine Bl.trans_ ?_ (And.left (by assumption))))⟩

end Go.Proofs.Ytffjpfanmnkmgaa

set_option linter.unusedSimpArgs false
set_option linter.unusedVariables false
namespace Go.Proofs.Ytffjpfanmnkmgaa
open Go.RowKit

def orI (a b : Int) : Int := if a = 0 then b else a

set_option maxHeartbeats 400000 in
theorem or_any (a b : Int) (g c : Nat) (w : World) (h0 : w.cell? ⟨g, 0, none⟩ = some (.int .i64 a)) (h1 : w.cell? ⟨g, 1, none⟩ = some (.int .i64 b)) :
    Calls Try.prog 133 #[.slice (some ⟨g, 0, none⟩) 2 c] w fun e w' => e = .returned (.int .i64 (orI a b)) ∧ w = w' := by
  by_cases ha : a = 0
  · subst ha
    by_cases hb : b = 0
    · subst hb
      go_enter Try.func133, Try.ntmps133
      go_wp2
      refine wp_loop_rounds 3 ?_
      rw [rounds_succ]
      go_wp2
      rw [rounds_succ]
      go_wp2
      rw [rounds_succ]
      go_wp2
      go_ret
      exact ⟨ret_int rfl, rfl⟩
    · have hb' : (b != 0) = true := by simpa using hb
      go_enter Try.func133, Try.ntmps133
      go_wp2
      refine wp_loop_rounds 3 ?_
      rw [rounds_succ]
      go_wp2
      rw [rounds_succ]
      go_wp2
      go_ret
      exact ⟨ret_int rfl, rfl⟩
  · have ha' : (a != 0) = true := by simpa using ha
    go_enter Try.func133, Try.ntmps133
    go_wp2
    refine wp_loop_rounds 3 ?_
    rw [rounds_succ]
    go_wp2
    go_ret
    exact ⟨ret_int (by simp [orI, ha]), rfl⟩

/-- The order of two arcs by their ends. -/
def endsI (a b c d : Int) : Int := orI (cmpI a c) (cmpI b d)

theorem two_boxes {w wx : World} {a b x c d y : Value} {t : TypeId} (h : Bl ((w.alloc (.cells #[a, b, x] t)).alloc (.cells #[c, d, y] t)) wx) :
    Bl ((w.alloc (.cells #[a, b, x] t)).alloc (.cells #[c, d, y] t)) wx ∧ wx.cell? ⟨w.heap.size, 0, none⟩ = some a ∧ wx.cell? ⟨w.heap.size, 1, none⟩ = some b ∧
      wx.cell? ⟨w.heap.size + 1, 0, none⟩ = some c ∧ wx.cell? ⟨w.heap.size + 1, 1, none⟩ = some d := by
  obtain ⟨hc, _⟩ := bcell h
  exact ⟨h, by rw [hc _ _ (by simp; omega)]; simp [go_sem], by rw [hc _ _ (by simp; omega)]; simp [go_sem], by rw [hc _ _ (by simp)]; simp [go_sem], by rw [hc _ _ (by simp)]; simp [go_sem]⟩

set_option maxHeartbeats 400000 in
theorem ends_any (a b x c d y : Int) (w : World) :
    Calls Try.prog 132 #[.agg #[.int .i64 a, .int .i64 b, .int .i64 x], .agg #[.int .i64 c, .int .i64 d, .int .i64 y]] w fun e w' => e = .returned (.int .i64 (endsI a b c d)) ∧ Bl w w' := by
  go_enter Try.func132, Try.ntmps132
  go_wp2
  go_region_held3 (fun wx => Bl ((w.alloc (.cells #[.int .i64 a, .int .i64 b, .int .i64 x] 87)).alloc (.cells #[.int .i64 c, .int .i64 d, .int .i64 y] 87)) wx ∧ wx.cell? ⟨w.heap.size, 0, none⟩ = some (.int .i64 a) ∧ wx.cell? ⟨w.heap.size, 1, none⟩ = some (.int .i64 b) ∧ wx.cell? ⟨w.heap.size + 1, 0, none⟩ = some (.int .i64 c) ∧ wx.cell? ⟨w.heap.size + 1, 1, none⟩ = some (.int .i64 d)) (exact two_boxes (by repeat' (first | exact Bl.refl _ | with_reducible assumption | with_reducible refine Bl.drew_ ?_ | with_reducible refine Bl.drewN_ ?_ _ | with_reducible refine Bl.alloc_ ?_ _ | with_reducible refine Bl.trans_ ?_ (by assumption) | with_reducible refine Bl.trans_ ?_ (And.left (by assumption))))) (first | (go_at_call 134; refine (cmp_any _ _ _).mono ?_; rintro e w' ⟨rfl, rfl⟩) | (go_at_call 133; refine (or_any (cmpI a c) (cmpI b d) _ _ _ ?_ ?_).mono ?_; (· go_simp); (· go_simp); rintro e w' ⟨rfl, rfl⟩))
  go_wp2
  go_ret
  exact ⟨ret_int rfl, (by repeat' (first | exact Bl.refl _ | with_reducible assumption | with_reducible refine Bl.drew_ ?_ | with_reducible refine Bl.drewN_ ?_ _ | with_reducible refine Bl.alloc_ ?_ _ | with_reducible refine Bl.trans_ ?_ (by assumption) | with_reducible refine Bl.trans_ ?_ (And.left (by assumption))))⟩


end Go.Proofs.Ytffjpfanmnkmgaa

set_option linter.unusedSimpArgs false
set_option linter.unusedVariables false
namespace Go.Proofs.Ytffjpfanmnkmgaa
open Go.RowKit

/-- An arc as three numbers: from, to, weight. -/
abbrev Arc3 := Int × Int × Int

/-- The slice at A reads as the list L of arcs, and lies below block B. -/
def ArcsAt (w : World) (B : Nat) (A : Option Addr) (L : List Arc3) : Prop :=
  0 < L.length → ∃ g off, A = some ⟨g, off, none⟩ ∧ g < B ∧ ∀ k (h : k < L.length), w.cell? ⟨g, off + k * 3, none⟩ = some (.int .i64 L[k].1) ∧
    w.cell? ⟨g, off + k * 3 + 1, none⟩ = some (.int .i64 L[k].2.1) ∧ w.cell? ⟨g, off + k * 3 + 2, none⟩ = some (.int .i64 L[k].2.2)

theorem ArcsAt.keep {w w' : World} {B : Nat} {A : Option Addr} {L : List Arc3} (h : ArcsAt w B A L) (hk : ∀ b o, b < B → w'.cell? ⟨b, o, none⟩ = w.cell? ⟨b, o, none⟩) : ArcsAt w' B A L := fun h0 => by
  obtain ⟨g, off, e, hg, hc⟩ := h h0
  exact ⟨g, off, e, hg, fun k hk' => by rw [hk _ _ hg, hk _ _ hg, hk _ _ hg]; exact hc k hk'⟩
theorem ArcsAt.more {w : World} {B B' : Nat} {A : Option Addr} {L : List Arc3} (h : ArcsAt w B A L) (hB : B ≤ B') : ArcsAt w B' A L := fun h0 => by
  obtain ⟨g, off, e, hg, hc⟩ := h h0
  exact ⟨g, off, e, Nat.lt_of_lt_of_le hg hB, hc⟩
theorem ArcsAt.bl {w w' : World} {A : Option Addr} {L : List Arc3} (h : ArcsAt w w.heap.size A L) (hb : Bl w w') : ArcsAt w' w'.heap.size A L :=
  (h.keep (bcell hb).1).more hb.size
theorem ArcsAt.bl' {w w' : World} {B : Nat} {A : Option Addr} {L : List Arc3} (h : ArcsAt w B A L) (hB : B ≤ w.heap.size) (hb : Bl w w') : ArcsAt w' B A L :=
  h.keep fun b o hl => (bcell hb).1 b o (by omega)




end Go.Proofs.Ytffjpfanmnkmgaa

set_option linter.unusedSimpArgs false
set_option linter.unusedVariables false
namespace Go.Proofs.Ytffjpfanmnkmgaa
open Go.RowKit

theorem infoArc : (Try.prog.info? 87).map (fun i => (i.zero, i.size, i.bytes)) = some (some (.agg #[.int .i64 0, .int .i64 0, .int .i64 0]), 3, 24) := by kernel_rfl







theorem ArcsAt.set {w : World} {B g off : Nat} {L : List Arc3} (h : ArcsAt w B (some ⟨g, off, none⟩) L) {p : Addr} (hp : p.block ≠ g) (v : Value) : ArcsAt (w.setCell p v) B (some ⟨g, off, none⟩) L := fun h0 => by
  obtain ⟨g', off', e, hg, hc⟩ := h h0
  injection e with e
  injection e with e1 e2 e3
  subst e1; subst e2
  refine ⟨g, off, rfl, hg, fun k hk => ?_⟩
  obtain ⟨a, b, c⟩ := hc k hk
  refine ⟨?_, ?_, ?_⟩
  · rw [World.cell?_setCell_other _ _ _ _ (fun e => hp (by rw [e]))]; exact a
  · rw [World.cell?_setCell_other _ _ _ _ (fun e => hp (by rw [e]))]; exact b
  · rw [World.cell?_setCell_other _ _ _ _ (fun e => hp (by rw [e]))]; exact c



end Go.Proofs.Ytffjpfanmnkmgaa

set_option linter.unusedSimpArgs false
set_option linter.unusedVariables false
namespace Go.Proofs.Ytffjpfanmnkmgaa
open Go.RowKit

/-- Is arc k of the list as it should be, with the one ahead of it? -/
def stepB (n : Int) (L : List Arc3) (k : Nat) (h : k < L.length) : Bool :=
  arcB n L[k].1 L[k].2.1 L[k].2.2 && (if h0 : 0 < k then aheadB (L[k-1]'(by omega)).1 (L[k-1]'(by omega)).2.1 L[k].1 L[k].2.1 else true)
/-- Are the first k arcs as they should be? -/
def firstB (n : Int) (L : List Arc3) : Nat → Bool
  | 0 => true
  | k + 1 => firstB n L k && (if h : k < L.length then stepB n L k h else true)
/-- Is the graph right? -/
def okB (n : Int) (L : List Arc3) : Bool := decide (1 ≤ n ∧ n ≤ 24 ∧ L.length ≤ 150) && firstB n L L.length

theorem firstB_no {n : Int} {L : List Arc3} {k : Nat} (hk : firstB n L k = false) : ∀ m, k ≤ m → firstB n L m = false := by
  intro m hm
  induction m with
  | zero =>
    have e : k = 0 := by omega
    subst e; exact hk
  | succ m ih =>
    rcases Nat.lt_or_ge m k with h | h
    · have e : k = m + 1 := by omega
      subst e; exact hk
    · simp [firstB, ih h]
theorem firstB_step {n : Int} {L : List Arc3} {k : Nat} (h : k < L.length) : firstB n L (k + 1) = (firstB n L k && stepB n L k h) := by
  simp [firstB, h]
theorem okB_no {n : Int} {L : List Arc3} {k : Nat} (h : k < L.length) (hs : stepB n L k h = false) : okB n L = false := by
  have h1 : firstB n L (k + 1) = false := by rw [firstB_step h, hs, Bool.and_false]
  simp [okB, firstB_no h1 L.length (by omega)]
theorem okB_yes {n : Int} {L : List Arc3} (h : firstB n L L.length = true) : okB n L = decide (1 ≤ n ∧ n ≤ 24 ∧ L.length ≤ 150) := by
  simp [okB, h]

theorem endsI_ahead (a b c d : Int) : decide (0 ≤ endsI a b c d) = !(aheadB a b c d) := by
  rw [Bool.eq_iff_iff]
  simp only [decide_eq_true_eq, Bool.not_eq_true', aheadB, decide_eq_false_iff_not]
  unfold endsI orI cmpI
  split <;> split <;> (try split) <;> (try split) <;> (try split) <;> omega

set_option maxHeartbeats 400000 in
theorem implOk_any (N : Int) (A : Option Addr) (n c : Nat) (L : List Arc3) (hn : n = L.length) (w : World) (hm : n ≤ 9223372036854775807) (H1 : ArcsAt w w.heap.size A L) :
    Calls Try.prog 100 #[.agg #[.int .i64 N, .slice A n c]] w fun e w' => e = .returned (.bool (okB N L)) ∧ Bl w w' := by
  have K1 := Lib.hid H1
  have HN := Lib.hid hn
  clear H1 hn
  by_cases h1 : N < 1
  · go_enter Try.func100, Try.ntmps100
    go_wp2
    go_ret
    exact ⟨ret_bool (by simp [okB]; omega), (by repeat' (first | exact Bl.refl _ | with_reducible assumption | with_reducible refine Bl.drew_ ?_ | with_reducible refine Bl.drewN_ ?_ _ | with_reducible refine Bl.alloc_ ?_ _ | with_reducible refine Bl.trans_ ?_ (by assumption) | with_reducible refine Bl.trans_ ?_ (And.left (by assumption))))⟩
  · by_cases h2 : 24 < N
    · go_enter Try.func100, Try.ntmps100
      go_wp2
      go_ret
      exact ⟨ret_bool (by simp [okB]; omega), (by repeat' (first | exact Bl.refl _ | with_reducible assumption | with_reducible refine Bl.drew_ ?_ | with_reducible refine Bl.drewN_ ?_ _ | with_reducible refine Bl.alloc_ ?_ _ | with_reducible refine Bl.trans_ ?_ (by assumption) | with_reducible refine Bl.trans_ ?_ (And.left (by assumption))))⟩
    · by_cases h3 : 150 < n
      · have h3' : (150 : Int) < n := by omega
        go_enter Try.func100, Try.ntmps100
        go_wp2
        go_ret
        exact ⟨ret_bool (by have := HN.out; simp [okB]; omega), (by repeat' (first | exact Bl.refl _ | with_reducible assumption | with_reducible refine Bl.drew_ ?_ | with_reducible refine Bl.drewN_ ?_ _ | with_reducible refine Bl.alloc_ ?_ _ | with_reducible refine Bl.trans_ ?_ (by assumption) | with_reducible refine Bl.trans_ ?_ (And.left (by assumption))))⟩
      · have h3' : ¬ (150 : Int) < n := by omega
        go_enter Try.func100, Try.ntmps100
        go_wp2
        go_loopw [22] (fun i wr => ∃ k : Nat, k ≤ n ∧ i = .int .i64 k ∧ Bl (w.alloc (.cells #[.int .i64 N, .slice A n c] 38)) wr ∧ firstB N L k = true) (fun i _ => n - (intOf i).toNat)
        case atStart => exact ⟨0, by omega, rfl, Bl.refl _, rfl⟩
        case round =>
          obtain ⟨k, hk, rfl, hbl, hfb⟩ := hrel
          have hs := hbl.size
          have HB := Lib.hid hfb
          clear hfb
          by_cases hlt : k < n
          · have hkl : k < L.length := by have := HN.out; omega
            obtain ⟨g1, o1, rfl, hg1, hc1⟩ := K1.out (by omega)
            have hW : ∀ b o, b < w.heap.size → wr.cell? ⟨b, o, none⟩ = w.cell? ⟨b, o, none⟩ := (bcell ((Bl.alloc_ (Bl.refl w) _).trans_ hbl)).1
            obtain ⟨p1, p2, p3⟩ := hc1 k hkl
            rw [← hW _ _ hg1] at p1 p2 p3
            have q0 : wr.cell? ⟨w.heap.size, 0, none⟩ = some (.int .i64 N) := by rw [(bcell hbl).1 w.heap.size 0 (by simp)]; simp [go_sem]
            have q1 : wr.cell? ⟨w.heap.size, 1, none⟩ = some (.slice (some ⟨g1, o1, none⟩) n c) := by rw [(bcell hbl).1 w.heap.size 1 (by simp)]; simp [go_sem]
            have hs1 : w.heap.size < wr.heap.size := by simp at hs; omega
            have hs2 : g1 < wr.heap.size := by omega
            have HW := Lib.hid hW
            have HC := Lib.hid hc1
            clear hW hc1
            generalize hx : L[k].1 = x at p1
            generalize hy : L[k].2.1 = y at p2
            generalize hz : L[k].2.2 = z at p3
            have HX := Lib.hid hx
            have HY := Lib.hid hy
            have HZ := Lib.hid hz
            clear hx hy hz
            by_cases ha : arcB N x y z = true
            · have HT : ∀ wx, Bl (wr.alloc (.cells #[.int .i64 x, .int .i64 y, .int .i64 z] 87)) wx → ∀ b o, b < wr.heap.size → wx.cell? ⟨b, o, none⟩ = wr.cell? ⟨b, o, none⟩ := fun wx hb b o hlt => (bcell ((Bl.alloc_ (Bl.refl wr) _).trans_ hb)).1 b o hlt
              have HN1 : ∀ wx, Bl (wr.alloc (.cells #[.int .i64 x, .int .i64 y, .int .i64 z] 87)) wx → wx.cell? ⟨wr.heap.size, 0, none⟩ = some (.int .i64 x) ∧ wx.cell? ⟨wr.heap.size, 1, none⟩ = some (.int .i64 y) ∧ wx.cell? ⟨wr.heap.size, 2, none⟩ = some (.int .i64 z) := fun wx hb => by
                have hc := (bcell hb).1
                exact ⟨by rw [hc _ _ (by simp)]; simp [go_sem], by rw [hc _ _ (by simp)]; simp [go_sem], by rw [hc _ _ (by simp)]; simp [go_sem]⟩
              have T := Lib.hid HT
              have V := Lib.hid HN1
              clear HT HN1
              by_cases h0 : 0 < k
              · have hk1 : k - 1 < L.length := by omega
                obtain ⟨r1, r2, r3⟩ := HC.out (k - 1) hk1
                rw [← HW.out _ _ hg1] at r1 r2 r3
                generalize hx' : L[k-1].1 = x' at r1
                generalize hy' : L[k-1].2.1 = y' at r2
                generalize hz' : L[k-1].2.2 = z' at r3
                have HX' := Lib.hid hx'
                have HY' := Lib.hid hy'
                clear hx' hy' hz'
                have hstep : stepB N L k hkl = aheadB x' y' x y := by
                  unfold stepB
                  rw [HX.out, HY.out, HZ.out, ha, Bool.true_and, dif_pos h0, HX'.out, HY'.out]
                have hends := endsI_ahead x' y' x y
                have HSH := Lib.hid (show ∀ wx, Bl (wr.alloc (.cells #[.int .i64 x, .int .i64 y, .int .i64 z] 87)) wx → Bl (wr.alloc (.cells #[.int .i64 x, .int .i64 y, .int .i64 z] 87)) wx ∧ wx.cell? ⟨w.heap.size, 1, none⟩ = some (.slice (some ⟨g1, o1, none⟩) n c) ∧
                    wx.cell? ⟨g1, o1 + (k - 1) * 3, none⟩ = some (.int .i64 x') ∧ wx.cell? ⟨g1, o1 + (k - 1) * 3 + 1, none⟩ = some (.int .i64 y') ∧ wx.cell? ⟨g1, o1 + (k - 1) * 3 + 2, none⟩ = some (.int .i64 z') ∧
                    wx.cell? ⟨wr.heap.size, 0, none⟩ = some (.int .i64 x) ∧ wx.cell? ⟨wr.heap.size, 1, none⟩ = some (.int .i64 y) ∧ wx.cell? ⟨wr.heap.size, 2, none⟩ = some (.int .i64 z) from fun wx hb =>
                  ⟨hb, (T.out wx hb _ _ hs1).trans q1, (T.out wx hb _ _ hs2).trans r1, (T.out wx hb _ _ hs2).trans r2, (T.out wx hb _ _ hs2).trans r3, V.out wx hb⟩)
                have HST := Lib.hid hstep
                clear hstep r1 r2 r3
                by_cases hah : aheadB x' y' x y = true
                · have hd : decide (0 ≤ endsI x' y' x y) = false := by rw [hends, hah]; rfl
                  clear hends
                  have w1 : IntKind.i64.wrap ((k : Int) - 1) = (k : Int) - 1 := IntWalk.i64_in _ (by omega)
                  have w2 : (0 : Int) ≤ (k : Int) - 1 := by omega
                  have w5 : (1 : Int) ≤ (k : Int) := by omega
                  have w3 : (k : Int) - 1 < (n : Int) := by omega
                  have w4 : ((k : Int) - 1).toNat = k - 1 := by omega
                  go_wp2_with (go_at_call 131; refine (arcOk_any _ _ _ _ _ _).mono ?_; rintro e w' ⟨rfl, hb⟩; obtain ⟨hc, hf⟩ := bcell hb)
                  go_region_held3 (fun wx => Bl (wr.alloc (.cells #[.int .i64 x, .int .i64 y, .int .i64 z] 87)) wx ∧ wx.cell? ⟨w.heap.size, 1, none⟩ = some (.slice (some ⟨g1, o1, none⟩) n c) ∧
                    wx.cell? ⟨g1, o1 + (k - 1) * 3, none⟩ = some (.int .i64 x') ∧ wx.cell? ⟨g1, o1 + (k - 1) * 3 + 1, none⟩ = some (.int .i64 y') ∧ wx.cell? ⟨g1, o1 + (k - 1) * 3 + 2, none⟩ = some (.int .i64 z') ∧
                    wx.cell? ⟨wr.heap.size, 0, none⟩ = some (.int .i64 x) ∧ wx.cell? ⟨wr.heap.size, 1, none⟩ = some (.int .i64 y) ∧ wx.cell? ⟨wr.heap.size, 2, none⟩ = some (.int .i64 z)) (exact HSH.out _ (by repeat' (first | exact Bl.refl _ | with_reducible assumption | with_reducible refine Bl.drew_ ?_ | with_reducible refine Bl.drewN_ ?_ _ | with_reducible refine Bl.alloc_ ?_ _ | with_reducible refine Bl.trans_ ?_ (by assumption) | with_reducible refine Bl.trans_ ?_ (And.left (by assumption))))) (first | (go_at_call 132; refine (ends_any _ _ _ _ _ _ _).mono ?_; rintro e w' ⟨rfl, hb⟩; obtain ⟨hc, hf⟩ := bcell hb))
                  go_wp2
                  go_roundw
                  case rel =>
                    refine ⟨k + 1, by omega, by go_num, (by repeat' (first | exact Bl.refl _ | with_reducible assumption | with_reducible refine Bl.drew_ ?_ | with_reducible refine Bl.drewN_ ?_ _ | with_reducible refine Bl.alloc_ ?_ _ | with_reducible refine Bl.trans_ ?_ (by assumption) | with_reducible refine Bl.trans_ ?_ (And.left (by assumption)))), ?_⟩
                    rw [firstB_step hkl, HB.out, Bool.true_and, HST.out, hah]
                  case measure => simp [intOf]; omega
                · have hd : decide (0 ≤ endsI x' y' x y) = true := by rw [hends]; simpa using hah
                  clear hends
                  have w1 : IntKind.i64.wrap ((k : Int) - 1) = (k : Int) - 1 := IntWalk.i64_in _ (by omega)
                  have w2 : (0 : Int) ≤ (k : Int) - 1 := by omega
                  have w5 : (1 : Int) ≤ (k : Int) := by omega
                  have w3 : (k : Int) - 1 < (n : Int) := by omega
                  have w4 : ((k : Int) - 1).toNat = k - 1 := by omega
                  go_wp2_with (go_at_call 131; refine (arcOk_any _ _ _ _ _ _).mono ?_; rintro e w' ⟨rfl, hb⟩; obtain ⟨hc, hf⟩ := bcell hb)
                  go_region_held3 (fun wx => Bl (wr.alloc (.cells #[.int .i64 x, .int .i64 y, .int .i64 z] 87)) wx ∧ wx.cell? ⟨w.heap.size, 1, none⟩ = some (.slice (some ⟨g1, o1, none⟩) n c) ∧
                    wx.cell? ⟨g1, o1 + (k - 1) * 3, none⟩ = some (.int .i64 x') ∧ wx.cell? ⟨g1, o1 + (k - 1) * 3 + 1, none⟩ = some (.int .i64 y') ∧ wx.cell? ⟨g1, o1 + (k - 1) * 3 + 2, none⟩ = some (.int .i64 z') ∧
                    wx.cell? ⟨wr.heap.size, 0, none⟩ = some (.int .i64 x) ∧ wx.cell? ⟨wr.heap.size, 1, none⟩ = some (.int .i64 y) ∧ wx.cell? ⟨wr.heap.size, 2, none⟩ = some (.int .i64 z)) (exact HSH.out _ (by repeat' (first | exact Bl.refl _ | with_reducible assumption | with_reducible refine Bl.drew_ ?_ | with_reducible refine Bl.drewN_ ?_ _ | with_reducible refine Bl.alloc_ ?_ _ | with_reducible refine Bl.trans_ ?_ (by assumption) | with_reducible refine Bl.trans_ ?_ (And.left (by assumption))))) (first | (go_at_call 132; refine (ends_any _ _ _ _ _ _ _).mono ?_; rintro e w' ⟨rfl, hb⟩; obtain ⟨hc, hf⟩ := bcell hb))
                  go_wp2
                  go_ret
                  exact ⟨ret_bool (okB_no hkl (by rw [HST.out]; simpa using hah)).symm, (by repeat' (first | exact Bl.refl _ | with_reducible assumption | with_reducible refine Bl.drew_ ?_ | with_reducible refine Bl.drewN_ ?_ _ | with_reducible refine Bl.alloc_ ?_ _ | with_reducible refine Bl.trans_ ?_ (by assumption) | with_reducible refine Bl.trans_ ?_ (And.left (by assumption))))⟩
              · have h0' : decide ((0 : Int) < (k : Int)) = false := by simp; omega
                go_wp2_with (go_at_call 131; refine (arcOk_any _ _ _ _ _ _).mono ?_; rintro e w' ⟨rfl, hb⟩; obtain ⟨hc, hf⟩ := bcell hb)
                go_quiet (fail)
                go_wp2
                go_roundw
                case rel =>
                  refine ⟨k + 1, by omega, by go_num, (by repeat' (first | exact Bl.refl _ | with_reducible assumption | with_reducible refine Bl.drew_ ?_ | with_reducible refine Bl.drewN_ ?_ _ | with_reducible refine Bl.alloc_ ?_ _ | with_reducible refine Bl.trans_ ?_ (by assumption) | with_reducible refine Bl.trans_ ?_ (And.left (by assumption)))), ?_⟩
                  rw [firstB_step hkl, HB.out, Bool.true_and]
                  unfold stepB
                  rw [HX.out, HY.out, HZ.out, ha, Bool.true_and, dif_neg h0]
                case measure => simp [intOf]; omega
            · have ha' : arcB N x y z = false := by simpa using ha
              clear ha
              go_wp2_with (go_at_call 131; refine (arcOk_any _ _ _ _ _ _).mono ?_; rintro e w' ⟨rfl, hb⟩; obtain ⟨hc, hf⟩ := bcell hb)
              go_ret
              refine ⟨ret_bool (okB_no hkl ?_).symm, (by repeat' (first | exact Bl.refl _ | with_reducible assumption | with_reducible refine Bl.drew_ ?_ | with_reducible refine Bl.drewN_ ?_ _ | with_reducible refine Bl.alloc_ ?_ _ | with_reducible refine Bl.trans_ ?_ (by assumption) | with_reducible refine Bl.trans_ ?_ (And.left (by assumption))))⟩
              unfold stepB
              rw [HX.out, HY.out, HZ.out, ha', Bool.false_and]
          · go_wp2
            go_ret
            exact ⟨ret_bool (by have e := HN.out; rw [okB_yes (by rw [← e, show n = k by omega]; exact HB.out)]; simp; omega), (Bl.alloc_ (Bl.refl w) _).trans_ hbl⟩

end Go.Proofs.Ytffjpfanmnkmgaa
