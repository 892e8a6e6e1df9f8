/-
  What is proved here: BansOk, on both sides. No conditions beyond those that each theorem states.
-/
import Derived.Test.YtelgjfflhcmljaaBNA
import Derived.Test.YtelgjfflhcmljaaX1
import Derived.Test.YtelgjfflhcmljaaA6
set_option linter.unusedSimpArgs false
set_option linter.unusedVariables false
namespace Go.Proofs.Ytelgjfflhcmljaa
open Go.RowKit

/-- Is a ban ahead of another one? -/
def aheadT (a b : Arc3) : Bool := decide (a.1 < b.1 ∨ a.1 = b.1 ∧ (a.2.1 < b.2.1 ∨ a.2.1 = b.2.1 ∧ a.2.2 < b.2.2))
/-- Is the ban at place k as it should be? -/
def bansB (L M : List Arc3) (k : Nat) (h : k < M.length) : Bool :=
  !(wtL M[k].1 M[k].2.1 L == 0) && !(wtL M[k].2.1 M[k].2.2 L == 0) && (k == 0 || aheadT (M[k - 1]'(by omega)) M[k])
def bansF (L M : List Arc3) : Nat → Bool
  | 0 => true
  | k + 1 => bansF L M k && (if h : k < M.length then bansB L M k h else true)
/-- Are these bans right for the graph? -/
def bansOkB (N : Int) (L M : List Arc3) : Bool := okB N L && decide (M.length ≤ 30) && bansF L M M.length
theorem bansF_no {L M : List Arc3} {k : Nat} (hk : bansF L M k = false) : ∀ m, k ≤ m → bansF L M m = false := by
  intro m hm
  induction m with
  | zero =>
    have e : k = 0 := by omega
    subst e; exact hk
  | succ m ih =>
    by_cases e : k = m + 1
    · subst e; exact hk
    · show (bansF L M m && (if h : m < M.length then bansB L M m h else true)) = false
      rw [ih (by omega), Bool.false_and]
theorem bansF_step {L M : List Arc3} {k : Nat} (h : k < M.length) : bansF L M (k + 1) = (bansF L M k && bansB L M k h) := by
  show (bansF L M k && (if h : k < M.length then bansB L M k h else true)) = _
  rw [dif_pos h]
theorem bansOk_no {N : Int} {L M : List Arc3} {k : Nat} (h : k < M.length) (hs : bansB L M k h = false) : bansOkB N L M = false := by
  unfold bansOkB
  rw [bansF_no (k := k + 1) (by rw [bansF_step h, hs, Bool.and_false]) _ (by omega), Bool.and_false]
theorem bansOk_yes {N : Int} {L M : List Arc3} (ho : okB N L = true) (h : bansF L M M.length = true) : bansOkB N L M = decide (M.length ≤ 30) := by
  unfold bansOkB
  rw [ho, h, Bool.and_true, Bool.true_and]

set_option maxHeartbeats 800000 in
theorem or3_any (a b x : Int) (g c : Nat) (w : World) (h0 : w.cell? ⟨g, 0, none⟩ = some (.int .i64 a)) (h1 : w.cell? ⟨g, 1, none⟩ = some (.int .i64 b)) (h2 : w.cell? ⟨g, 2, none⟩ = some (.int .i64 x)) :
    Calls Try.prog 137 #[.slice (some ⟨g, 0, none⟩) 3 c] w fun e w' => e = .returned (.int .i64 (orI a (orI b x))) ∧ w = w' := by
  by_cases ha : a = 0
  · subst ha
    by_cases hb : b = 0
    · subst hb
      by_cases hx : x = 0
      · subst hx
        go_enter Try.func137, Try.ntmps137
        go_wp2
        refine wp_loop_rounds 4 ?_
        rw [rounds_succ]
        go_wp2
        rw [rounds_succ]
        go_wp2
        rw [rounds_succ]
        go_wp2
        rw [rounds_succ]
        go_wp2
        go_ret
        exact ⟨ret_int rfl, rfl⟩
      · have hx' : (x != 0) = true := by simpa using hx
        go_enter Try.func137, Try.ntmps137
        go_wp2
        refine wp_loop_rounds 4 ?_
        rw [rounds_succ]
        go_wp2
        rw [rounds_succ]
        go_wp2
        rw [rounds_succ]
        go_wp2
        go_ret
        exact ⟨ret_int rfl, rfl⟩
    · have hb' : (b != 0) = true := by simpa using hb
      go_enter Try.func137, Try.ntmps137
      go_wp2
      refine wp_loop_rounds 4 ?_
      rw [rounds_succ]
      go_wp2
      rw [rounds_succ]
      go_wp2
      go_ret
      exact ⟨ret_int (by simp [orI, hb]), rfl⟩
  · have ha' : (a != 0) = true := by simpa using ha
    go_enter Try.func137, Try.ntmps137
    go_wp2
    refine wp_loop_rounds 4 ?_
    rw [rounds_succ]
    go_wp2
    go_ret
    exact ⟨ret_int (by simp [orI, ha]), rfl⟩

def bansI (a b : Arc3) : Int := orI (cmpI a.1 b.1) (orI (cmpI a.2.1 b.2.1) (cmpI a.2.2 b.2.2))
theorem bansI_ahead (a b : Arc3) : decide (0 ≤ bansI a b) = !(aheadT a b) := by
  unfold bansI aheadT orI cmpI
  rw [Bool.eq_iff_iff]
  simp only [decide_eq_true_eq, Bool.not_eq_true', decide_eq_false_iff_not]
  repeat' split
  all_goals omega

theorem two_bans {w wx : World} {a b x c d y : Value} {t : TypeId} (h : Bl ((w.alloc (.cells #[a, b, x] t)).alloc (.cells #[c, d, y] t)) wx) :
    Bl ((w.alloc (.cells #[a, b, x] t)).alloc (.cells #[c, d, y] t)) wx ∧ wx.cell? ⟨w.heap.size, 0, none⟩ = some a ∧ wx.cell? ⟨w.heap.size, 1, none⟩ = some b ∧ wx.cell? ⟨w.heap.size, 2, none⟩ = some x ∧
      wx.cell? ⟨w.heap.size + 1, 0, none⟩ = some c ∧ wx.cell? ⟨w.heap.size + 1, 1, none⟩ = some d ∧ wx.cell? ⟨w.heap.size + 1, 2, none⟩ = some y := by
  obtain ⟨hc, _⟩ := bcell h
  exact ⟨h, by rw [hc _ _ (by simp; omega)]; simp [go_sem], by rw [hc _ _ (by simp; omega)]; simp [go_sem], by rw [hc _ _ (by simp; omega)]; simp [go_sem], by rw [hc _ _ (by simp)]; simp [go_sem], by rw [hc _ _ (by simp)]; simp [go_sem], by rw [hc _ _ (by simp)]; simp [go_sem]⟩

set_option maxHeartbeats 1600000 in
theorem compareBans_any (a b x c d y : Int) (w : World) :
    Calls Try.prog 94 #[.agg #[.int .i64 a, .int .i64 b, .int .i64 x], .agg #[.int .i64 c, .int .i64 d, .int .i64 y]] w fun e w' => e = .returned (.int .i64 (bansI (a, b, x) (c, d, y))) ∧ Bl w w' := by
  go_enter Try.func94, Try.ntmps94
  go_wp2
  go_region_held3 (fun wx => Bl ((w.alloc (.cells #[.int .i64 a, .int .i64 b, .int .i64 x] 105)).alloc (.cells #[.int .i64 c, .int .i64 d, .int .i64 y] 105)) wx ∧ wx.cell? ⟨w.heap.size, 0, none⟩ = some (.int .i64 a) ∧ wx.cell? ⟨w.heap.size, 1, none⟩ = some (.int .i64 b) ∧ wx.cell? ⟨w.heap.size, 2, none⟩ = some (.int .i64 x) ∧ wx.cell? ⟨w.heap.size + 1, 0, none⟩ = some (.int .i64 c) ∧ wx.cell? ⟨w.heap.size + 1, 1, none⟩ = some (.int .i64 d) ∧ wx.cell? ⟨w.heap.size + 1, 2, none⟩ = some (.int .i64 y)) (exact two_bans (by repeat' (first | exact Bl.refl _ | with_reducible assumption | with_reducible refine Bl.drew_ ?_ | with_reducible refine Bl.drewN_ ?_ _ | with_reducible refine Bl.alloc_ ?_ _ | with_reducible refine Bl.trans_ ?_ (by assumption) | with_reducible refine Bl.trans_ ?_ (And.left (by assumption))))) (first | (go_at_call 138; refine (cmp_any _ _ _).mono ?_; rintro e w' ⟨rfl, rfl⟩) | (go_at_call 137; refine (or3_any (cmpI a c) (cmpI b d) (cmpI x y) _ _ _ ?_ ?_ ?_).mono ?_; (· go_simp); (· go_simp); (· go_simp); rintro e w' ⟨rfl, rfl⟩))
  go_wp2
  go_ret
  exact ⟨ret_int rfl, (by repeat' (first | exact Bl.refl _ | with_reducible assumption | with_reducible refine Bl.drew_ ?_ | with_reducible refine Bl.drewN_ ?_ _ | with_reducible refine Bl.alloc_ ?_ _ | with_reducible refine Bl.trans_ ?_ (by assumption) | with_reducible refine Bl.trans_ ?_ (And.left (by assumption))))⟩

set_option maxHeartbeats 800000 in
theorem l13Less_any (a b : Arc3) (w : World) :
    Calls Try.prog 92 #[.agg #[.int .i64 a.1, .int .i64 a.2.1, .int .i64 a.2.2], .agg #[.int .i64 b.1, .int .i64 b.2.1, .int .i64 b.2.2]] w fun e w' => e = .returned (.bool (aheadT a b)) ∧ Bl w w' := by
  obtain ⟨a, b', x⟩ := a
  obtain ⟨c, d, y⟩ := b
  simp only
  by_cases h1 : a = c
  · subst h1
    by_cases h2 : b' = d
    · subst h2
      have e1 : (a != a) = false := by simp
      have e2 : (b' != b') = false := by simp
      go_enter Try.func92, Try.ntmps92
      go_wp2
      go_ret
      refine ⟨?_, (by repeat' (first | exact Bl.refl _ | with_reducible assumption | with_reducible refine Bl.drew_ ?_ | with_reducible refine Bl.drewN_ ?_ _ | with_reducible refine Bl.alloc_ ?_ _ | with_reducible refine Bl.trans_ ?_ (by assumption) | with_reducible refine Bl.trans_ ?_ (And.left (by assumption))))⟩
      unfold aheadT
      simp
    · have e1 : (a != a) = false := by simp
      have e2 : (b' != d) = true := by simpa using h2
      go_enter Try.func92, Try.ntmps92
      go_wp2
      go_ret
      refine ⟨?_, (by repeat' (first | exact Bl.refl _ | with_reducible assumption | with_reducible refine Bl.drew_ ?_ | with_reducible refine Bl.drewN_ ?_ _ | with_reducible refine Bl.alloc_ ?_ _ | with_reducible refine Bl.trans_ ?_ (by assumption) | with_reducible refine Bl.trans_ ?_ (And.left (by assumption))))⟩
      unfold aheadT
      simp [h2]
  · have e1 : (a != c) = true := by simpa using h1
    go_enter Try.func92, Try.ntmps92
    go_wp2
    go_ret
    refine ⟨?_, (by repeat' (first | exact Bl.refl _ | with_reducible assumption | with_reducible refine Bl.drew_ ?_ | with_reducible refine Bl.drewN_ ?_ _ | with_reducible refine Bl.alloc_ ?_ _ | with_reducible refine Bl.trans_ ?_ (by assumption) | with_reducible refine Bl.trans_ ?_ (And.left (by assumption))))⟩
    unfold aheadT
    simp [h1]

end Go.Proofs.Ytelgjfflhcmljaa
