/-
  What is proved here: plain facts on trees: of each node the least one ahead of it on a shortest path; toInt64S makes new memory that reads as what it is handed; what a slice of numbers that comes in is made of; the laws' small functions on halves; the product of one and a small number, as the library reckons it; a list of as many of one number as are asked for, at most 24, as the library makes it. No conditions beyond those that each theorem states.
-/
import Derived.Test.YtffjpfanmnkmgaaZP
import Derived.Test.YtffjpfanmnkmgaaPR
import Derived.Test.YtffjpfanmnkmgaaZN
import Derived.Test.YtffjpfanmnkmgaaZ0
import Derived.Laws.CopyOwn
import Derived.Deep.RegionLaw
set_option linter.unusedSimpArgs false
set_option linter.unusedVariables false
namespace Go.Proofs.Ytffjpfanmnkmgaa
open Go.RowKit

/-- Is the arc on a shortest path? -/
def tightB (D : List Int) (a : Arc3) : Bool := decide (0 ≤ dAt D a.1 ∧ dAt D a.1 + a.2.2 = dAt D a.2.1)
/-- The first node from which an arc of a shortest path leads to v. -/
def upTr (L : List Arc3) (D : List Int) (v : Int) : Int := match L.find? (fun a => a.2.1 == v && tightB D a) with | some a => a.1 | none => -1
def treeStep (D U : List Int) (a : Arc3) : List Int := if dAt U a.2.1 < 0 ∧ tightB D a = true then U.set a.2.1.toNat a.1 else U
def treeK (L : List Arc3) (D : List Int) (m k : Nat) : List Int := (L.take k).foldl (treeStep D) (List.replicate m (-1))
theorem treeK_succ {L : List Arc3} {D : List Int} {m k : Nat} (h : k < L.length) : treeK L D m (k + 1) = treeStep D (treeK L D m k) L[k] := by
  unfold treeK
  rw [List.take_succ_eq_append_getElem h, List.foldl_append]
  rfl
theorem treeStep_len (D U : List Int) (a : Arc3) : (treeStep D U a).length = U.length := by
  unfold treeStep
  split <;> simp
theorem treeK_len (L : List Arc3) (D : List Int) (m : Nat) : ∀ k, k ≤ L.length → (treeK L D m k).length = m
  | 0, _ => by simp [treeK]
  | k + 1, h => by rw [treeK_succ (by omega), treeStep_len, treeK_len L D m k (by omega)]
theorem upTr_snoc (L : List Arc3) (D : List Int) (v : Int) (a : Arc3) (hL : ∀ b ∈ L, 0 ≤ b.1) : upTr (L ++ [a]) D v = if upTr L D v < 0 ∧ a.2.1 = v ∧ tightB D a = true then a.1 else upTr L D v := by
  unfold upTr
  rw [List.find?_append]
  cases h : L.find? (fun a => a.2.1 == v && tightB D a) with
  | some b =>
    have hb := hL b (List.mem_of_find?_eq_some h)
    simp
    omega
  | none =>
    simp only [Option.none_or]
    by_cases hc : a.2.1 = v ∧ tightB D a = true
    · simp [hc]
    · rw [if_neg (fun h => hc h.2)]
      have : (a.2.1 == v && tightB D a) = false := by
        rw [Bool.eq_false_iff]
        intro h
        simp at h
        exact hc h
      simp [this]
theorem treeK_at {L : List Arc3} {D : List Int} {m : Nat} (hL : ∀ b ∈ L, 0 ≤ b.1 ∧ 0 ≤ b.2.1 ∧ b.2.1 < m) {v : Int} (h0 : 0 ≤ v) (h1 : v < m) : ∀ k, k ≤ L.length → dAt (treeK L D m k) v = upTr (L.take k) D v
  | 0, _ => by
    have : v.toNat < m := by omega
    simp [treeK, upTr, dAt, this]
  | k + 1, h => by
    have ih := treeK_at (D := D) hL h0 h1 k (by omega)
    have hk : k < L.length := by omega
    obtain ⟨b0, b1, b2⟩ := hL L[k] (List.getElem_mem hk)
    have hl := treeK_len L D m k (by omega)
    rw [treeK_succ hk, List.take_succ_eq_append_getElem hk, upTr_snoc _ _ _ _ (fun b hb => (hL b (List.mem_of_mem_take hb)).1), ← ih]
    unfold treeStep
    by_cases hc : dAt (treeK L D m k) L[k].2.1 < 0 ∧ tightB D L[k] = true
    · rw [if_pos hc, dAt_set b1 (by omega) h0]
      by_cases e : v = L[k].2.1
      · subst e
        rw [if_pos rfl, if_pos ⟨hc.1, rfl, hc.2⟩]
      · rw [if_neg e, if_neg (fun h => e h.2.1.symm)]
    · rw [if_neg hc]
      by_cases e : v = L[k].2.1
      · subst e
        rw [if_neg (fun h => hc ⟨h.1, h.2.2⟩)]
      · rw [if_neg (fun h => e h.2.1.symm)]
/-- Up of the tree. -/
def treeU (m : Nat) (L : List Arc3) (D : List Int) : List Int := (List.range m).map fun (i : Nat) => upTr L D (i : Int)
theorem treeU_len (m : Nat) (L : List Arc3) (D : List Int) : (treeU m L D).length = m := by simp [treeU]
theorem treeK_all {L : List Arc3} {D : List Int} {m : Nat} (hL : ∀ b ∈ L, 0 ≤ b.1 ∧ 0 ≤ b.2.1 ∧ b.2.1 < m) : treeK L D m L.length = treeU m L D := by
  have hl := treeK_len L D m L.length (Nat.le_refl _)
  refine List.ext_getElem (by rw [hl, treeU_len]) fun i h1 h2 => ?_
  have := treeK_at (D := D) (m := m) hL (v := (i : Int)) (by omega) (by omega) L.length (Nat.le_refl _)
  rw [List.take_length] at this
  simp only [treeU, List.getElem_map, List.getElem_range]
  rw [← this]
  simp [dAt, h1]

/-- What the model asks of u. -/
def upB (L : List Arc3) (D : List Int) (v : Int) (u : Nat) : Bool := decide (0 < wtL u v L ∧ 0 ≤ dAt D u ∧ dAt D u + wtL u v L = dAt D v)
def upSt (L : List Arc3) (D : List Int) (v : Int) : Nat → Int
  | 0 => -1
  | k + 1 => if upSt L D v k < 0 ∧ upB L D v k = true then (k : Int) else upSt L D v k
theorem upSt_inv (L : List Arc3) (D : List Int) (v : Int) : ∀ k, (upSt L D v k = -1 ∧ ∀ u, u < k → upB L D v u = false) ∨ ∃ u, u < k ∧ upSt L D v k = (u : Int) ∧ upB L D v u = true ∧ ∀ x, x < u → upB L D v x = false
  | 0 => .inl ⟨rfl, fun u h => absurd h (by omega)⟩
  | k + 1 => by
    rcases upSt_inv L D v k with ⟨e, h⟩ | ⟨u, h1, e, h2, h3⟩
    · cases hb : upB L D v k with
      | true =>
        refine .inr ⟨k, by omega, ?_, hb, h⟩
        unfold upSt
        rw [if_pos ⟨by omega, hb⟩]
      | false =>
        refine .inl ⟨?_, fun u hu => ?_⟩
        · unfold upSt
          rw [if_neg (by rw [hb]; simp), e]
        · rcases Nat.lt_or_ge u k with h' | h'
          · exact h u h'
          · obtain rfl : u = k := by omega
            exact hb
    · refine .inr ⟨u, by omega, ?_, h2, h3⟩
      unfold upSt
      rw [if_neg (by omega), e]
theorem tight_up {N : Int} {L : List Arc3} {D : List Int} (ho : okB N L = true) {a : Arc3} (ha : a ∈ L) (ht : tightB D a = true) : upB L D a.2.1 a.1.toNat = true := by
  have hr := arcsIn_of_ok ho a ha
  have hw := wtL_mem (okB_elim ho).2.2.2.2 ha
  unfold tightB at ht
  unfold upB
  have e : ((a.1.toNat : Nat) : Int) = a.1 := by omega
  rw [e, hw]
  simp at ht ⊢
  omega
theorem up_tight {L : List Arc3} {D : List Int} {v : Int} {u : Nat} (h : upB L D v u = true) : ∃ a ∈ L, a.1 = (u : Int) ∧ a.2.1 = v ∧ tightB D a = true := by
  unfold upB at h
  simp only [decide_eq_true_eq] at h
  refine ⟨_, wtL_pos h.1, rfl, rfl, ?_⟩
  unfold tightB
  simp
  exact h.2
theorem upSt_all {N : Int} {L : List Arc3} {D : List Int} {v : Int} (ho : okB N L = true) : upSt L D v N.toNat = upTr L D v := by
  have hs := (okB_elim ho).2.2.2.2
  unfold upTr
  cases h : L.find? (fun a => a.2.1 == v && tightB D a) with
  | none =>
    rcases upSt_inv L D v N.toNat with ⟨e, -⟩ | ⟨u, h1, e, h2, h3⟩
    · exact e
    · exfalso
      obtain ⟨a, ha, -, e2, e3⟩ := up_tight h2
      have := List.find?_eq_none.1 h a ha
      rw [e2, e3] at this
      simp at this
  | some a =>
    have ha := List.mem_of_find?_eq_some h
    obtain ⟨hp, X, Y, e, hX⟩ := List.find?_eq_some_iff_append.1 h
    simp only [Bool.and_eq_true, beq_iff_eq] at hp
    have hr := arcsIn_of_ok ho a ha
    have hu := tight_up ho ha hp.2
    rw [hp.1] at hu
    rcases upSt_inv L D v N.toNat with ⟨e', h'⟩ | ⟨u, h1, e', h2, h3⟩
    · have := h' a.1.toNat (by omega)
      rw [hu] at this
      cases this
    · rw [e']
      show (u : Int) = a.1
      rcases Nat.lt_trichotomy u a.1.toNat with hlt | heq | hgt
      · exfalso
        obtain ⟨b, hb, e1, e2, e3⟩ := up_tight h2
        rw [e] at hb
        rcases List.mem_append.1 hb with hb | hb
        · have := hX b hb
          rw [e2, e3] at this
          simp at this
        · rcases List.mem_cons.1 hb with rfl | hb
          · omega
          · rw [e] at hs
            have := (List.pairwise_cons.1 (List.pairwise_append.1 hs).2.1).1 b hb
            unfold AheadP at this
            simp only [aheadB, decide_eq_true_eq] at this
            omega
      · omega
      · have := h3 a.1.toNat hgt
        rw [hu] at this
        cases this
/-- To the root, and to what is not reached, no arc of a shortest path leads. -/
theorem upTr_no {N s v : Int} {L : List Arc3} {D : List Int} (ho : okB N L = true) (hD : IsDist N L s D) (h : v = s ∨ dAt D v < 0) : upTr L D v = -1 := by
  unfold upTr
  cases hf : L.find? (fun a => a.2.1 == v && tightB D a) with
  | none => rfl
  | some a =>
    exfalso
    have ha := List.mem_of_find?_eq_some hf
    have hp := List.find?_some hf
    simp only [Bool.and_eq_true, beq_iff_eq, tightB, decide_eq_true_eq] at hp
    obtain ⟨e, h0, h1⟩ := hp
    have hr := arcsIn_of_ok ho a ha
    have := hD.arc a ha h0
    have hst := hD.start
    rw [e] at this h1
    rcases h with rfl | h <;> omega

end Go.Proofs.Ytffjpfanmnkmgaa

set_option linter.unusedSimpArgs false
set_option linter.unusedVariables false
namespace Go.Proofs.Ytffjpfanmnkmgaa
open Go.ChangeShapes Go.WideShapes Go.ChangeAt Go.RowKit

/-- The cells of n new numbers. -/
def mk1 (n : Nat) : Array Value := madeCells #[.int .i64 0] (n * 1)
theorem size_mk1 (n : Nat) : (mk1 n).size = n := by unfold mk1; rw [size_madeCells, Nat.mul_one]
theorem mk1_row (w : World) (n : Nat) (t : TypeId) : (w.alloc (.cells (mk1 n) t)).rowIs w.heap.size t n (fun i => (mk1 n).getD i undef) := by
  have h := World.rowIs_alloc w (mk1 n) t (fun i => (mk1 n).getD i undef) (fun i hi => by simp [Array.getD, hi])
  rwa [size_mk1] at h
theorem make_nums (n : Nat) (hn : n ≤ 1048576) (w : World) : (Instr.makeSlice 22 (.int .i64 (n : Int)) (.int .i64 (n : Int))).run Try.prog w = .ok (.slice (some ⟨w.heap.size, 0, none⟩) n n) (w.alloc (.cells (mk1 n) 2)) := make_ints n hn w

set_option maxHeartbeats 400000 in
theorem toInt64S_any (A : Option Addr) (n c : Nat) (V : List Int) (hn : n = V.length) (w : World) (hm : n ≤ 1048576) (H1 : IntsAt w w.heap.size A V) :
    Calls Try.prog 44 #[.slice A n c] w fun e w' => e = .returned (.slice (some ⟨w.heap.size, 0, none⟩) n n) ∧ IntsAt w' w'.heap.size (some ⟨w.heap.size, 0, none⟩) V ∧ Bl w w' := by
  have K1 := Lib.hid H1
  have HN := Lib.hid hn
  clear H1 hn
  have hmk := make_nums n hm
  go_enter Try.func44, Try.ntmps44
  go_wp2
  clear hmk
  go_loopw [4] (fun i wr => ∃ k : Nat, k ≤ n ∧ i = .int .i64 k ∧ Bl w wr ∧ ∃ f, wr.rowIs w.heap.size 2 n f ∧ ∀ j (h : j < k) (h' : j < V.length), f j = .int .i64 V[j]) (fun i _ => n - (intOf i).toNat)
  case atStart => exact ⟨0, by omega, rfl, (by repeat' (first | exact Bl.refl _ | with_reducible assumption | with_reducible refine Bl.drew_ ?_ | with_reducible refine Bl.drewN_ ?_ _ | with_reducible refine Bl.alloc_ ?_ _ | with_reducible refine Bl.trans_ ?_ (by assumption) | with_reducible refine Bl.trans_ ?_ (And.left (by assumption)))), _, mk1_row _ _ _, fun j h => absurd h (by omega)⟩
  case round =>
    obtain ⟨k, hk, rfl, hbl, f, hrow, hf⟩ := hrel
    by_cases hlt : k < n
    · have hkl : k < V.length := by have := HN.out; omega
      obtain ⟨g1, o1, rfl, hg1, hc1⟩ := K1.out.cell (by omega)
      have p1 := hc1 k hkl
      rw [← (bcell hbl).1 _ _ hg1] at p1
      have F := Lib.hid hf
      have R := Lib.hid hrow
      clear hf hrow hc1
      have z1 := R.out.cell (i := k) (by omega)
      have y1 := R.out.frozen k
      have i0 : (0 : Int) ≤ (k : Int) := by omega
      have i1 : (k : Int) < (n : Int) := by omega
      generalize hv : V[k] = x at p1
      go_wp2
      go_roundw
      case rel =>
        refine ⟨k + 1, by omega, by go_num, Bl.set_ hbl (Nat.le_refl _) _, _, R.out.set k _, fun j hj hj' => ?_⟩
        rcases Nat.lt_or_ge j k with h | h
        · rw [if_neg (by omega)]
          exact F.out j h hj'
        · have e : j = k := by omega
          subst e
          rw [if_pos rfl, hv]
      case measure => simp [intOf]; omega
    · go_wp2
      go_ret
      have e : k = n := by omega
      subst e
      refine ⟨rfl, fun h0 => ⟨w.heap.size, 0, rfl, hrow.lt, fun j hj => ?_⟩, hbl⟩
      rw [csI_len] at hj
      have hjk : j < k := by have := HN.out; omega
      rw [csI_at, ← hf j hjk hj, Nat.zero_add]
      exact hrow.cell hjk

set_option maxRecDepth 100000 in
theorem open_nums {H : Type} {enc : TypeId × Value → H} {W : World} {r : Reach} {b0 : Nat} {v : Value} {d : DataW H} {p : List MemPlace} (hv : Value.okWide Try.prog W r b0 22 v)
    (h : DataW.Trod enc Try.prog W 0 (fun _ => true) true 22 v d p) :
    ∃ (A : Option Addr) (n c : Nat) (V : List Int), v = .slice A n c ∧ n = V.length ∧ n ≤ 9223372036854775807 ∧ n ≤ c ∧ IntsAt W W.heap.size A V := by
  obtain ⟨a0, len0, cap0, rfl⟩ := okWide_slice Try.underlying22 hv
  obtain ⟨m0, ht1⟩ := h
  rcases open_ints Try.underlying22 Try.underlying2 (by kernel_rfl) ht1 with ⟨hcs, _⟩ | ⟨a, len, cap, zs, hcs, _, hl, hcap, hzs, hmax, hcell, hwf⟩
  · have hcs' : [Value.slice a0 len0 cap0] = [.slice none 0 0] := hcs
    simp only [List.cons.injEq, and_true, Value.slice.injEq] at hcs'
    obtain ⟨rfl, rfl, rfl⟩ := hcs'
    exact ⟨none, 0, 0, [], rfl, rfl, by omega, Nat.le_refl _, CellsAt.nil_ _ _ _⟩
  · have hcs' : [Value.slice a0 len0 cap0] = [.slice (some a) len cap] := hcs
    simp only [List.cons.injEq, and_true, Value.slice.injEq] at hcs'
    obtain ⟨rfl, rfl, rfl⟩ := hcs'
    have hz : len0 ≤ zs.length := by rw [hzs]; simp; omega
    refine ⟨some a, len0, cap0, zs.take len0, rfl, by rw [List.length_take]; omega, by first | omega | (unfold maxLen at *; omega), by omega, fun h0 => ?_⟩
    rw [csI_len, List.length_take] at h0
    obtain ⟨b, off, spot⟩ := a
    have hc0 := hcell 0 (by omega)
    have hspot : spot = none := by simpa [Addr.add] using World.cell?_spot hc0
    subst hspot
    refine ⟨b, off, rfl, ?_, fun j hj => ?_⟩
    · have := World.block_lt_of_cell? _ _ hc0
      simpa [Addr.add] using this
    · rw [csI_len, List.length_take] at hj
      have hc := hcell j (by omega)
      rw [Go.WideShapes.add_plain] at hc
      rw [hc, csI_at, List.getElem_take, List.getD_eq_getElem?_getD, List.getElem?_eq_getElem (by omega)]
      rfl

end Go.Proofs.Ytffjpfanmnkmgaa

set_option linter.unusedSimpArgs false
set_option linter.unusedVariables false
namespace Go.Proofs.Ytffjpfanmnkmgaa
open Go.ChangeShapes Go.WideShapes Go.ChangeAt Go.RowKit

/-- A new half is left. -/
def HalfMade (n m : Nat) (r : Int) (D E : List Int) (w : World) (e : Ending) (w' : World) : Prop :=
  ∃ g h, e = .returned (.agg #[.slice (some ⟨g, 0, none⟩) n n, .slice (some ⟨h, 0, none⟩) m m, .int .i64 r]) ∧ IntsAt w' w'.heap.size (some ⟨g, 0, none⟩) D ∧ IntsAt w' w'.heap.size (some ⟨h, 0, none⟩) E ∧ Bl w w'

theorem IntsAt.set_ {w : World} {B : Nat} {A : Option Addr} {V : List Int} (h : IntsAt w B A V) {p : Addr} (hp : ∀ g, blockOf A = some g → p.block ≠ g) (v : Value) : IntsAt (w.setCell p v) B A V := fun h0 => by
  obtain ⟨g, off, rfl, hg, hc⟩ := h h0
  exact ⟨g, off, rfl, hg, fun k hk => by rw [World.cell?_setCell_other _ _ _ _ (fun e => hp g rfl (by rw [e]))]; exact hc k hk⟩

-- (Tri left out)
-- (Tri.new left out)
-- (Tri.facts left out)
-- (Tri.bl left out)
-- (Tri.far left out)
-- (Tri.set0 left out)
-- (Tri.set1 left out)
-- (Tri.set2 left out)

-- (toHalf_any left out)

-- (eqHalf_yes left out)

-- (szHalf_any left out)

end Go.Proofs.Ytffjpfanmnkmgaa

set_option linter.unusedSimpArgs false
set_option linter.unusedVariables false
namespace Go.Proofs.Ytffjpfanmnkmgaa
open Go.RowKit

set_option maxRecDepth 100000 in
set_option maxHeartbeats 8000000 in
theorem mul64_one (n : Nat) (hn : n ≤ 24) (w : World) :
    Calls Try.prog 147 #[.int .u64 1, .int .u64 (n : Int)] w fun e w' => e = .returned (.tuple #[.int .u64 0, .int .u64 (n : Int)]) ∧ w' = w := by
  match n, hn with
  | 0, _ | 1, _ | 2, _ | 3, _ | 4, _ | 5, _ | 6, _ | 7, _ | 8, _ | 9, _ | 10, _ | 11, _ | 12, _ | 13, _ | 14, _ | 15, _ | 16, _ | 17, _ | 18, _ | 19, _ | 20, _ | 21, _ | 22, _ | 23, _ | 24, _ =>
    go_enter Try.func147, Try.ntmps147
    go_wp2
    go_ret2
    exact ⟨rfl, rfl⟩
  | (k + 25), h => exact absurd h (by omega)

set_option maxRecDepth 100000 in
set_option maxHeartbeats 1000000 in
theorem mul_one_ (n : Nat) (hn : n ≤ 24) (w : World) :
    Calls Try.prog 118 #[.int .u64 1, .int .u64 (n : Int)] w fun e w' => e = .returned (.tuple #[.int .u64 0, .int .u64 (n : Int)]) ∧ w' = w := by
  go_enter Try.func118, Try.ntmps118
  go_wp2_with fail
  refine (mul64_one n hn _).mono ?_
  rintro e w1 ⟨rfl, rfl⟩
  go_wp2
  go_ret2
  exact ⟨rfl, rfl⟩

end Go.Proofs.Ytffjpfanmnkmgaa

set_option linter.unusedSimpArgs false
set_option linter.unusedVariables false
namespace Go.Proofs.Ytffjpfanmnkmgaa
open Go.RowKit

theorem splice_rep {α : Type} (a b : α) (i k m : Nat) (h : m ≤ k) : splice (List.replicate i a ++ List.replicate k b) i (List.replicate m a) = List.replicate (i + m) a ++ List.replicate (k - m) b := by
  unfold splice
  rw [List.length_replicate, List.take_left' (by simp), List.drop_append, List.drop_eq_nil_of_le (by simp), List.nil_append, List.length_replicate, show i + m - i = m by omega, List.drop_replicate, ← List.append_assoc, List.replicate_append_replicate]

theorem mk1_cells (n : Nat) : mk1 n = (List.replicate n (Value.int .i64 0)).toArray := by
  refine Array.ext (by simp [size_mk1]) fun i h1 h2 => ?_
  unfold mk1
  simp [madeCells, Nat.mod_one]
/-- What is laid down of the numbers. -/
def repC (x : Int) (i k : Nat) : List Value := List.replicate i (.int .i64 x) ++ List.replicate k (.int .i64 0)
theorem repC_len (x : Int) (i k : Nat) : (repC x i k).length = i + k := by simp [repC]
theorem repC_at {x : Int} {i k j : Nat} (h : j < i) : (repC x i k)[j]? = some (.int .i64 x) := by
  unfold repC
  rw [List.getElem?_append_left (by simpa using h)]
  simp [h]

set_option maxRecDepth 100000 in
set_option maxHeartbeats 4000000 in
theorem repeat_any (g0 c0 : Nat) (x : Int) (n : Nat) (h1 : 1 ≤ n) (hn : n ≤ 24) (w : World) (hg : g0 < w.heap.size) (hc : w.cell? ⟨g0, 0, none⟩ = some (.int .i64 x)) :
    Calls Try.prog 74 #[.slice (some ⟨g0, 0, none⟩) 1 c0, .int .i64 (n : Int)] w fun e w' => e = .returned (.slice (some ⟨w.heap.size, 0, none⟩) n n) ∧ OwnN w' w.heap.size (.slice (some ⟨w.heap.size, 0, none⟩) n n) (List.replicate n x) ∧ Bl w w' := by
  have hmk := make_nums n (by omega)
  have n0 : (0 : Int) ≤ (n : Int) := by omega
  have HSZ := Lib.hid (show (Try.prog.info? 2).map (·.size) = some 1 from by kernel_rfl)
  go_enter Try.func74, Try.ntmps74
  go_wp2_with fail
  refine (mul_one_ n hn _).mono ?_
  rintro e w1 ⟨rfl, rfl⟩
  have HC := Lib.hid hc
  clear hc
  have HM0 := Lib.hid (show (w1.alloc (.cells (mk1 n) 2)).heap[w1.heap.size]? = some (.cells (repC x 0 n).toArray 2 (0, 0)) from by
    rw [mk1_cells, World.alloc_heap_new]
    simp [repC])
  have HB0 := Lib.hid (show Bl w1 (w1.alloc (.cells (mk1 n) 2)) from Bl.alloc_ (Bl.refl _) _)
  obtain ⟨Y, hY⟩ : ∃ Y, Y = List.replicate 1 (Value.int .i64 x) := ⟨_, rfl⟩
  have YL := Lib.hid (show Y.length = 1 from by rw [hY]; rfl)
  have HY := Lib.hid hY
  clear hY
  go_wp2_with (refine wpList_copy_splice (o := ⟨some 33, _, _, _, _, _⟩) rfl (.tmp 31) (.tmp 32) 22 22 rfl 2 Try.underlying22 HSZ.out _ _ n n 1 c0 rfl rfl w1.heap.size 0 (repC x 0 n) 2 HM0.out Y ?k1 ?k2 ?k3 ?k4 w1.heap.size w1 HB0.out (Nat.le_refl _) ?_)
  case k1 => rw [YL.out]; exact (Nat.min_eq_left h1).symm
  case k2 =>
    intro _ j v hj
    rw [HY.out] at hj
    match j, hj with
    | 0, hj =>
      have e : v = .int .i64 x := by simpa using hj.symm
      rw [e]
      exact HC.out
    | (j + 1), hj => simp at hj
  case k3 => rw [repC_len, YL.out]; omega
  case k4 => intro v hv; rw [HY.out] at hv; rw [List.eq_of_mem_replicate hv]; rfl
  intro w2 hg2 hb2
  have HG2 := Lib.hid (show w2.heap[w1.heap.size]? = some (.cells (repC x 1 (n - 1)).toArray 2 (0, 0)) from by
    have h := hg2.out
    rw [HY.out, show splice (repC x 0 n) 0 (List.replicate 1 (Value.int .i64 x)) = repC x 1 (n - 1) from splice_rep _ _ 0 n 1 h1] at h
    exact h)
  have B2 := Lib.hid hb2
  clear hg2 hb2 hmk
  go_wp2_with fail
  go_loopw [8] (fun i wr => ∃ j : Nat, 1 ≤ j ∧ j ≤ n ∧ i = .int .i64 j ∧ Hid (wr.heap[w1.heap.size]? = some (.cells (repC x j (n - j)).toArray 2 (0, 0))) ∧ Bl w1 wr) (fun i _ => n - (intOf i).toNat)
  case atStart => exact ⟨1, by omega, h1, by rw [YL.out], HG2, B2.out⟩
  case round =>
    obtain ⟨j, hj1, hj, rfl, HG, hbl⟩ := hrel
    have BB := Lib.hid hbl
    by_cases hlt : j < n
    · have i0 : (0 : Int) ≤ (j : Int) := by omega
      have i1 : (j : Int) ≤ (n : Int) := by omega
      have i2 : (j : Int) < (n : Int) := by omega
      obtain ⟨m, hm⟩ : ∃ m, m = Nat.min j (n - j) := ⟨_, rfl⟩
      have hm1 : 1 ≤ m ∧ m ≤ j ∧ m ≤ n - j := by rw [hm]; exact ⟨by simp [Nat.min_def]; split <;> omega, Nat.min_le_left _ _, Nat.min_le_right _ _⟩
      have HM := Lib.hid hm
      have HRL := Lib.hid (repC_len x j (n - j))
      obtain ⟨C, hC⟩ : ∃ C, C = repC x j (n - j) := ⟨_, rfl⟩
      rw [← hC] at HG HRL
      obtain ⟨X, hX⟩ : ∃ X, X = List.replicate m (Value.int .i64 x) := ⟨_, rfl⟩
      have XL := Lib.hid (show X.length = m from by rw [hX]; simp)
      have HCC := Lib.hid hC
      have HXX := Lib.hid hX
      clear hm hC hX hbl
      have OWN : wr.ownsRow w1.heap.size 2 1 (.slice (some ⟨w1.heap.size, 0, none⟩) n n) n C :=
        ⟨by rw [HRL.out]; omega, .inr ⟨w1.heap.size, n, C.toArray, rfl, Nat.le_refl _, HG.out, Nat.le_refl _, by unfold maxLen; omega, by rw [List.size_toArray, HRL.out]; omega, by rw [List.take_of_length_le (by simp [HRL.out]; omega)]⟩⟩
      have CE := Lib.hid (show ∀ (t : Nat) (v : Value), X[t]? = some v → wr.drew.cell? ((⟨w1.heap.size, 0, none⟩ : Addr).add t) = some v from fun t v ht => by
        have htl : t < m := by have := (List.getElem?_eq_some_iff.1 ht).1; rw [XL.out] at this; exact this
        have e := World.ownsRow.cellAt OWN t (by omega)
        rw [HXX.out] at ht
        simp [htl] at ht
        subst ht
        have e2 : C[t]? = some (Value.int .i64 x) := by rw [HCC.out]; exact repC_at (by omega)
        rcases Nat.eq_zero_or_pos t with rfl | h
        · simpa [Addr.add] using e.trans e2
        · simpa [Addr.add, show ¬ t = 0 by omega] using e.trans e2)
      clear OWN
      have w0 : IntKind.i64.wrap ((n : Int) - j) = (n : Int) - j := IntWalk.i64_in _ (by omega)
      go_wp2_with fail
      refine wp_region_held_drew (S := fun wx => Bl w1 wx) (by kernel_rfl) ?_ (fun hHeld => ?_)
      · (first | exact BB.out.drew_ | exact hb4)
      refine wpAnyH_take (i := 0) (v := ?_) rfl (by kernel_rfl) (by kernel_rfl) (by kernel_rfl) (fun _ _ _ h => h) (Or.inl ⟨by kernel_rfl, ?_⟩) (by assumption) ?_
      rotate_left
      · (intro wx hSw; (try dsimp only at hSw); go_simp; try (with_reducible rfl))
      try simp only [Act.put, List.getElem_toArray, List.getElem_cons_succ, List.getElem_cons_zero, List.setIfInBounds_toArray, List.set_cons_zero, List.set_cons_succ]
      refine wpAnyH_take (i := 1) (v := ?_) rfl (by kernel_rfl) (by kernel_rfl) (by kernel_rfl) (fun _ _ _ h => h) (Or.inl ⟨by kernel_rfl, ?_⟩) (by assumption) ?_
      rotate_left
      · (intro wx hSw; (try dsimp only at hSw); go_simp; try (with_reducible rfl))
      try simp only [Act.put, List.getElem_toArray, List.getElem_cons_succ, List.getElem_cons_zero, List.setIfInBounds_toArray, List.set_cons_zero, List.set_cons_succ]
      refine wpAnyH_take (i := 2) (v := ?_) rfl (by kernel_rfl) (by kernel_rfl) (by kernel_rfl) (fun _ _ _ h => h) (Or.inl ⟨by kernel_rfl, ?_⟩) (by assumption) ?_
      rotate_left
      · (intro wx hSw; (try dsimp only at hSw); go_simp; try (with_reducible rfl))
      try simp only [Act.put, List.getElem_toArray, List.getElem_cons_succ, List.getElem_cons_zero, List.setIfInBounds_toArray, List.set_cons_zero, List.set_cons_succ]
      refine wpAnyH_take (i := 3) (v := ?_) rfl (by kernel_rfl) (by kernel_rfl) (by kernel_rfl) (fun _ _ _ h => h) (Or.inl ⟨by kernel_rfl, ?_⟩) (by assumption) ?_
      rotate_left
      · (intro wx hSw; (try dsimp only at hSw); go_simp; try (with_reducible rfl))
      try simp only [Act.put, List.getElem_toArray, List.getElem_cons_succ, List.getElem_cons_zero, List.setIfInBounds_toArray, List.set_cons_zero, List.set_cons_succ]
      refine wpAnyH_take (i := 4) (v := ?_) rfl (by kernel_rfl) (by kernel_rfl) (by kernel_rfl) (fun _ _ _ h => h) (Or.inl ⟨by kernel_rfl, ?_⟩) (by assumption) ?_
      rotate_left
      · (intro wx hSw; (try dsimp only at hSw); go_simp; try (with_reducible rfl))
      try simp only [Act.put, List.getElem_toArray, List.getElem_cons_succ, List.getElem_cons_zero, List.setIfInBounds_toArray, List.set_cons_zero, List.set_cons_succ]
      refine wpAnyH_take (i := 5) (v := ?_) rfl (by kernel_rfl) (by kernel_rfl) (by kernel_rfl) (fun _ _ _ h => h) (Or.inl ⟨by kernel_rfl, ?_⟩) (by assumption) ?_
      rotate_left
      · (intro wx hSw; (try dsimp only at hSw); go_simp; try (with_reducible rfl))
      try simp only [Act.put, List.getElem_toArray, List.getElem_cons_succ, List.getElem_cons_zero, List.setIfInBounds_toArray, List.set_cons_zero, List.set_cons_succ]
      refine wpAnyH_take (i := 6) (v := ?_) rfl (by kernel_rfl) (by kernel_rfl) (by kernel_rfl) (fun _ _ _ h => h) (Or.inl ⟨by kernel_rfl, ?_⟩) (by assumption) ?_
      rotate_left
      · (intro wx hSw; (try dsimp only at hSw); go_simp; try (with_reducible rfl))
      try simp only [Act.put, List.getElem_toArray, List.getElem_cons_succ, List.getElem_cons_zero, List.setIfInBounds_toArray, List.set_cons_zero, List.set_cons_succ]
      refine wpAnyH_ready (rs := [7]) (by kernel_rfl) (by simp) ?_
      refine AllReadyH.cons rfl (fun K hK => ?_) AllReadyH.nil
      refine step_copy_splice rfl (.tmp 41) (.tmp 44) 22 22 rfl 2 Try.underlying22 HSZ.out _ _ _ _ _ _ rfl rfl w1.heap.size j C 2 HG.out X ?k1 ?k2 ?k3 ?k4 w1.heap.size w1 BB.out.drew_ (Nat.le_refl _) ?_; (case k1 => rw [XL.out, HM.out]); (case k2 => exact fun _ => ⟨if_neg (by omega), _, rfl, fun t v ht => CE.out t v ht⟩); (case k3 => rw [XL.out, HRL.out]; omega); (case k4 => intro v hv; rw [HXX.out] at hv; rw [List.eq_of_mem_replicate hv]; rfl); intro w4 hg4 hb4
      refine hK.out _ _ ?_ (fun hHeld => ?_)
      · (first | exact BB.out.drew_ | exact hb4)
      clear hK K
      try simp only [Act.put, List.getElem_toArray, List.getElem_cons_succ, List.getElem_cons_zero, List.setIfInBounds_toArray, List.set_cons_zero, List.set_cons_succ]
      refine wpAnyH_take (i := 8) (v := ?_) rfl (by kernel_rfl) (by kernel_rfl) (by kernel_rfl) (fun _ _ _ h => h) (Or.inl ⟨by kernel_rfl, ?_⟩) (by assumption) ?_
      rotate_left
      · (intro wx hSw; (try dsimp only at hSw); go_simp; try (with_reducible rfl))
      try simp only [Act.put, List.getElem_toArray, List.getElem_cons_succ, List.getElem_cons_zero, List.setIfInBounds_toArray, List.set_cons_zero, List.set_cons_succ]
      refine wpAnyH_take (i := 9) (v := ?_) rfl (by kernel_rfl) (by kernel_rfl) (by kernel_rfl) (fun _ _ _ h => h) (Or.inl ⟨by kernel_rfl, ?_⟩) (by assumption) ?_
      rotate_left
      · (intro wx hSw; (try dsimp only at hSw); go_simp; try (with_reducible rfl))
      try simp only [Act.put, List.getElem_toArray, List.getElem_cons_succ, List.getElem_cons_zero, List.setIfInBounds_toArray, List.set_cons_zero, List.set_cons_succ]
      refine wpAnyH_done (by kernel_rfl) ?_ _
      have HG4 := Lib.hid (show w4.heap[w1.heap.size]? = some (.cells (repC x (j + m) (n - (j + m))).toArray 2 (0, 0)) from by
        have h := hg4.out
        rw [HCC.out, HXX.out, show splice (repC x j (n - j)) j (List.replicate m (Value.int .i64 x)) = repC x (j + m) (n - j - m) from splice_rep _ _ j (n - j) m hm1.2.2] at h
        rwa [show n - (j + m) = n - j - m by omega])
      have B4 := Lib.hid hb4
      clear hg4 hb4
      go_wp2
      go_roundw
      case rel => exact ⟨j + m, by omega, by omega, by rw [XL.out, IntWalk.i64_in _ (by omega)]; go_num, HG4, B4.out⟩
      case measure => rw [XL.out, IntWalk.i64_in _ (by omega)]; simp [intOf]; omega
    · obtain rfl : j = n := by omega
      have HO := Lib.hid (show OwnN wr w1.heap.size (.slice (some ⟨w1.heap.size, 0, none⟩) j j) (List.replicate j x) from by
        unfold OwnN Owns
        rw [List.length_replicate]
        refine ⟨by simp [csI], .inr ⟨w1.heap.size, j, _, rfl, Nat.le_refl _, HG.out, Nat.le_refl _, by unfold maxLen; omega, by simp [repC_len], ?_⟩⟩
        simp [repC, csI])
      go_wp2
      go_ret
      exact ⟨rfl, HO.out, BB.out⟩

end Go.Proofs.Ytffjpfanmnkmgaa
