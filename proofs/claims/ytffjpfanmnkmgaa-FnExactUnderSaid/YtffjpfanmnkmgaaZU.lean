/-
  What is proved here: plain facts on paths in a tree, by the node ahead of each; plain facts on what is under a node of a tree; toInt64S makes new memory that can be marked; slices.Reverse turns a list of numbers of its own round; slices.Index and slices.Contains over numbers. No conditions beyond those that each theorem states.
-/
import Derived.Test.YtffjpfanmnkmgaaZN
import Derived.Test.YtffjpfanmnkmgaaZT
import Derived.BigRegion
set_option linter.unusedSimpArgs false
set_option linter.unusedVariables false
namespace Go.Proofs.Ytffjpfanmnkmgaa

/-- The nodes from r down to v, at most so many. -/
def upF (U : List Int) (r : Int) : Nat → Int → Option (List Int)
  | 0, _ => none
  | f + 1, v => if v < 0 then none else if v = r then some [v] else (upF U r f (dAt U v)).map (· ++ [v])
/-- Is a tree as it should be? -/
def rightU (U : List Int) (r : Int) : Bool := decide (U.length ≤ 24 ∧ (0 ≤ r ∧ r < U.length) ∧ ∀ x ∈ U, -1 ≤ x ∧ x < U.length)
/-- The nodes from the root down to v; none: one does not come there, or there is no such node. -/
def pathU (U : List Int) (r v : Int) : List Int := (upF U r 25 v).getD []
def pathInU (U : List Int) (r v : Int) : List Int := if (rightU U r && decide (0 ≤ v ∧ v < U.length)) = true then pathU U r v else []

variable {U : List Int} {r : Int}
theorem upF_more : ∀ {f : Nat} {v : Int} {P : List Int}, upF U r f v = some P → ∀ f', P.length ≤ f' → upF U r f' v = some P
  | 0, _, _, h, _, _ => by simp [upF] at h
  | f + 1, v, P, h, f', hf => by
    unfold upF at h
    by_cases h0 : v < 0
    · rw [if_pos h0] at h; cases h
    · rw [if_neg h0] at h
      by_cases h1 : v = r
      · rw [if_pos h1] at h
        injection h with h
        subst h
        obtain ⟨g, rfl⟩ : ∃ g, f' = g + 1 := ⟨f' - 1, by simp at hf; omega⟩
        unfold upF
        rw [if_neg h0, if_pos h1]
      · rw [if_neg h1] at h
        obtain ⟨Q, hQ, rfl⟩ := Option.map_eq_some_iff.1 h
        simp at hf
        obtain ⟨g, rfl⟩ : ∃ g, f' = g + 1 := ⟨f' - 1, by omega⟩
        unfold upF
        rw [if_neg h0, if_neg h1, upF_more hQ g (by omega)]
        rfl
theorem upF_fuel : ∀ {f : Nat} {v : Int} {P : List Int}, upF U r f v = some P → P.length ≤ f
  | 0, _, _, h => by simp [upF] at h
  | f + 1, v, P, h => by
    unfold upF at h
    by_cases h0 : v < 0
    · rw [if_pos h0] at h; cases h
    · rw [if_neg h0] at h
      by_cases h1 : v = r
      · rw [if_pos h1] at h
        injection h with h
        subst h
        simp
      · rw [if_neg h1] at h
        obtain ⟨Q, hQ, rfl⟩ := Option.map_eq_some_iff.1 h
        have := upF_fuel hQ
        simp
        omega
theorem upF_pre : ∀ {f : Nat} {v : Int} {P : List Int}, upF U r f v = some P → ∀ i (hi : i < P.length), upF U r (i + 1) P[i] = some (P.take (i + 1))
  | 0, _, _, h, _, _ => by simp [upF] at h
  | f + 1, v, P, h, i, hi => by
    have h' := h
    unfold upF at h
    by_cases h0 : v < 0
    · rw [if_pos h0] at h; cases h
    · rw [if_neg h0] at h
      by_cases h1 : v = r
      · rw [if_pos h1] at h
        injection h with h
        subst h
        obtain rfl : i = 0 := by simp at hi; omega
        show upF U r 1 v = some [v]
        rw [upF, if_neg h0, if_pos h1]
      · rw [if_neg h1] at h
        obtain ⟨Q, hQ, rfl⟩ := Option.map_eq_some_iff.1 h
        by_cases hl : i < Q.length
        · rw [List.getElem_append_left hl, upF_pre hQ i hl, List.take_append_of_le_length (by omega)]
        · obtain rfl : i = Q.length := by simp at hi; omega
          rw [List.getElem_append_right (Nat.le_refl _)]
          simp only [Nat.sub_self, List.getElem_cons_zero]
          rw [upF_more h' (Q.length + 1) (by simp), List.take_of_length_le (by simp)]
theorem upF_last : ∀ {f : Nat} {v : Int} {P : List Int}, upF U r f v = some P → ∃ Q, P = Q ++ [v]
  | 0, _, _, h => by simp [upF] at h
  | f + 1, v, P, h => by
    unfold upF at h
    by_cases h0 : v < 0
    · rw [if_pos h0] at h; cases h
    · rw [if_neg h0] at h
      by_cases h1 : v = r
      · rw [if_pos h1] at h
        injection h with h
        exact ⟨[], h.symm⟩
      · rw [if_neg h1] at h
        obtain ⟨Q, hQ, rfl⟩ := Option.map_eq_some_iff.1 h
        exact ⟨Q, rfl⟩
theorem upF_first : ∀ {f : Nat} {v : Int} {P : List Int}, upF U r f v = some P → ∃ Q, P = r :: Q
  | 0, _, _, h => by simp [upF] at h
  | f + 1, v, P, h => by
    unfold upF at h
    by_cases h0 : v < 0
    · rw [if_pos h0] at h; cases h
    · rw [if_neg h0] at h
      by_cases h1 : v = r
      · rw [if_pos h1] at h
        injection h with h
        exact ⟨[], by rw [← h, h1]⟩
      · rw [if_neg h1] at h
        obtain ⟨Q, hQ, rfl⟩ := Option.map_eq_some_iff.1 h
        obtain ⟨Q', rfl⟩ := upF_first hQ
        exact ⟨Q' ++ [v], rfl⟩
theorem upF_nodup {f : Nat} {v : Int} {P : List Int} (h : upF U r f v = some P) {i j : Nat} (hij : i < j) (hj : j < P.length) : P[i]'(by omega) ≠ P[j] := fun e => by
  have h1 := upF_pre h i (by omega)
  have h2 := upF_pre h j hj
  rw [e] at h1
  have h3 := upF_more h1 (j + 1) (by rw [List.length_take]; omega)
  rw [h2] at h3
  injection h3 with h3
  have := congrArg List.length h3
  rw [List.length_take, List.length_take] at this
  omega
theorem upF_in : ∀ {f : Nat} {v : Int} {P : List Int}, upF U r f v = some P → (∀ x ∈ U, x < U.length) → v < U.length → ∀ x ∈ P, 0 ≤ x ∧ x < U.length
  | 0, _, _, h, _, _ => by simp [upF] at h
  | f + 1, v, P, h, hU, hv => by
    unfold upF at h
    by_cases h0 : v < 0
    · rw [if_pos h0] at h; cases h
    · rw [if_neg h0] at h
      by_cases h1 : v = r
      · rw [if_pos h1] at h
        injection h with h
        subst h
        intro x hx
        obtain rfl := List.mem_singleton.1 hx
        omega
      · rw [if_neg h1] at h
        obtain ⟨Q, hQ, rfl⟩ := Option.map_eq_some_iff.1 h
        have hd : dAt U v < U.length := by
          unfold dAt
          rw [List.getD_eq_getElem?_getD]
          cases hg : U[v.toNat]? with
          | none => simp; omega
          | some x => simp; exact hU x (List.mem_of_getElem? hg)
        have ih := upF_in hQ hU hd
        intro x hx
        rcases List.mem_append.1 hx with hx | hx
        · exact ih x hx
        · obtain rfl := List.mem_singleton.1 hx
          omega
theorem upF_len {f : Nat} {v : Int} {P : List Int} (h : upF U r f v = some P) (hU : ∀ x ∈ U, x < U.length) (hv : v < U.length) : P.length ≤ U.length := by
  have hin := upF_in h hU hv
  have hn : (P.map Int.toNat).Nodup := by
    unfold List.Nodup
    rw [List.pairwise_iff_getElem]
    intro i j hi hj hij e
    rw [List.length_map] at hi hj
    rw [List.getElem_map, List.getElem_map] at e
    have a := hin P[i] (List.getElem_mem hi)
    have b := hin P[j] (List.getElem_mem hj)
    exact upF_nodup h hij hj (by omega)
  have := nodup_len U.length (P.map Int.toNat) hn fun n hm => by
    obtain ⟨x, hx, rfl⟩ := List.mem_map.1 hm
    have := hin x hx
    omega
  rwa [List.length_map] at this
theorem upF_same {f f' : Nat} {v : Int} (hU : ∀ x ∈ U, x < U.length) (hv : v < U.length) (hf : U.length ≤ f) (hf' : U.length ≤ f') : upF U r f v = upF U r f' v := by
  cases h : upF U r f v with
  | some P => exact (upF_more h f' (by have := upF_len h hU hv; omega)).symm
  | none =>
    cases h' : upF U r f' v with
    | none => rfl
    | some P =>
      rw [upF_more h' f (by have := upF_len h' hU hv; omega)] at h
      cases h
theorem rightU_elim (h : rightU U r = true) : U.length ≤ 24 ∧ (0 ≤ r ∧ r < U.length) ∧ ∀ x ∈ U, -1 ≤ x ∧ x < U.length := by simpa [rightU] using h
/-- One step. -/
theorem upF_step {f : Nat} {v : Int} (h0 : ¬ v < 0) (h1 : v ≠ r) : upF U r (f + 1) v = (upF U r f (dAt U v)).map (· ++ [v]) := by
  rw [upF, if_neg h0, if_neg h1]
theorem upF_root {f : Nat} {v : Int} (h0 : ¬ v < 0) (h1 : v = r) : upF U r (f + 1) v = some [v] := by
  rw [upF, if_neg h0, if_pos h1]
theorem upF_neg {f : Nat} {v : Int} (h0 : v < 0) : upF U r f v = none := by
  cases f with
  | zero => rfl
  | succ f => rw [upF, if_pos h0]
theorem pathU_len (U : List Int) (r v : Int) : (pathU U r v).length ≤ 25 := by
  unfold pathU
  cases h : upF U r 25 v with
  | none => simp
  | some P => exact upF_fuel h
theorem pathInU_len (U : List Int) (r v : Int) : (pathInU U r v).length ≤ 1048576 := by
  unfold pathInU
  split
  · have := pathU_len U r v; omega
  · simp

end Go.Proofs.Ytffjpfanmnkmgaa

set_option linter.unusedSimpArgs false
set_option linter.unusedVariables false
namespace Go.Proofs.Ytffjpfanmnkmgaa

/-- Of the first k nodes those whose path comes by v. -/
def underK (U : List Int) (r v : Int) (k : Nat) : List Int := ((List.range k).map fun (i : Nat) => (i : Int)).filter fun u => decide (v ∈ pathU U r u)
def underU (U : List Int) (r v : Int) : List Int := if (rightU U r && decide (0 ≤ v ∧ v < U.length)) = true then underK U r v U.length else []
variable {U : List Int} {r v : Int}
theorem underK_zero : underK U r v 0 = [] := rfl
theorem underK_yes {k : Nat} (h : decide (v ∈ pathU U r (k : Int)) = true) : underK U r v (k + 1) = underK U r v k ++ [(k : Int)] := by
  unfold underK
  rw [List.range_succ, List.map_append, List.filter_append]
  simp only [List.map_cons, List.map_nil, List.filter_cons, h, if_true, List.filter_nil]
theorem underK_no {k : Nat} (h : decide (v ∈ pathU U r (k : Int)) = false) : underK U r v (k + 1) = underK U r v k := by
  unfold underK
  rw [List.range_succ, List.map_append, List.filter_append]
  simp [List.filter_cons, h]
theorem underK_len (k : Nat) : (underK U r v k).length ≤ k := by
  unfold underK
  have := List.length_filter_le (fun u => decide (v ∈ pathU U r u)) ((List.range k).map fun (i : Nat) => (i : Int))
  simpa using this
theorem underK_mem {k : Nat} {u : Int} : u ∈ underK U r v k ↔ (0 ≤ u ∧ u < k) ∧ v ∈ pathU U r u := by
  unfold underK
  rw [List.mem_filter, List.mem_map]
  constructor
  · rintro ⟨⟨i, hi, rfl⟩, h⟩
    rw [List.mem_range] at hi
    exact ⟨by omega, of_decide_eq_true h⟩
  · rintro ⟨h1, h2⟩
    exact ⟨⟨u.toNat, by rw [List.mem_range]; omega, by omega⟩, by simpa using h2⟩
theorem underU_len (U : List Int) (r v : Int) : (underU U r v).length ≤ 1048576 := by
  unfold underU
  split
  · rename_i h
    rw [Bool.and_eq_true] at h
    have h1 := (rightU_elim h.1).1
    have h2 := underK_len (U := U) (r := r) (v := v) U.length
    omega
  · simp
theorem pathU_in (h : rightU U r = true) {u : Int} (hu : u < U.length) {x : Int} (hx : x ∈ pathU U r u) : 0 ≤ x ∧ x < U.length := by
  obtain ⟨-, -, h3⟩ := rightU_elim h
  unfold pathU at hx
  cases hf : upF U r 25 u with
  | none => rw [hf] at hx; simp at hx
  | some P =>
    rw [hf] at hx
    exact upF_in hf (fun y hy => (h3 y hy).2) hu x hx
/-- A node that is none is on no path. -/
theorem underK_out (h : rightU U r = true) (hv : ¬ (0 ≤ v ∧ v < U.length)) {k : Nat} (hk : k ≤ U.length) : underK U r v k = [] := by
  rw [List.eq_nil_iff_forall_not_mem]
  intro u hu
  obtain ⟨h1, h2⟩ := underK_mem.1 hu
  exact hv (pathU_in h (by omega) h2)
theorem underU_no (h : rightU U r = false) : underU U r v = [] := by unfold underU; rw [h]; rfl
theorem underU_yes (h : rightU U r = true) : underU U r v = underK U r v U.length := by
  unfold underU
  split
  · rfl
  · rename_i hc
    rw [underK_out h (fun hv => hc (by rw [h, decide_eq_true hv]; rfl)) (Nat.le_refl _)]
theorem underU_ask (h : decide (0 ≤ v ∧ v < U.length) = false) : underU U r v = [] := by unfold underU; rw [h, Bool.and_false]; rfl
theorem pathInU_yes (h : rightU U r = true) (hv : 0 ≤ v ∧ v < U.length) : pathInU U r v = pathU U r v := by
  unfold pathInU
  rw [if_pos (by rw [h, decide_eq_true hv]; rfl)]
theorem pathInU_no (h : rightU U r = false ∨ decide (0 ≤ v ∧ v < U.length) = false) : pathInU U r v = [] := by
  unfold pathInU
  rw [if_neg]
  rcases h with h | h <;> rw [h] <;> simp
/-- What the law asks of Under. -/
theorem under_has (h : 0 < (underU U r v).length) {u : Int} (hu : 0 ≤ u ∧ u < U.length) : decide (u ∈ underU U r v) = decide (v ∈ pathInU U r u) := by
  unfold underU at h ⊢
  split at h
  · rename_i hc
    rw [if_pos hc]
    rw [Bool.and_eq_true] at hc
    rw [pathInU_yes hc.1 hu, decide_eq_decide, underK_mem]
    exact ⟨fun h => h.2, fun h => ⟨hu, h⟩⟩
  · simp at h
/-- The path of the node ahead, and the node. -/
theorem pathU_up (h : rightU U r = true) (hv : 0 ≤ v ∧ v < U.length) (hr : v ≠ r) (hp : 0 < (pathU U r v).length) : pathU U r v = pathU U r (dAt U v) ++ [v] ∧ 0 < (pathU U r (dAt U v)).length := by
  obtain ⟨h1, h2, h3⟩ := rightU_elim h
  unfold pathU at hp ⊢
  cases hf : upF U r 25 v with
  | none => rw [hf] at hp; simp at hp
  | some P =>
    have hl := upF_len hf (fun y hy => (h3 y hy).2) hv.2
    have hf' := hf
    rw [upF_step (by omega) hr] at hf'
    obtain ⟨Q, hQ, rfl⟩ := Option.map_eq_some_iff.1 hf'
    have hq := upF_more hQ 25 (by simp at hl; omega)
    obtain ⟨Q', rfl⟩ := upF_first hQ
    rw [hq]
    simp
theorem under_up (h : rightU U r = true) (hv : 0 ≤ v ∧ v < U.length) (hr : v ≠ r) {x : Int} (hx : x ∈ underU U r v) : x ∈ underU U r (dAt U v) ∧ 0 < (pathU U r v).length := by
  obtain ⟨h1, h2, h3⟩ := rightU_elim h
  rw [underU_yes h, underK_mem] at hx
  obtain ⟨hx1, hx2⟩ := hx
  rw [underU_yes h, underK_mem]
  unfold pathU at hx2
  cases hf : upF U r 25 x with
  | none => rw [hf] at hx2; simp at hx2
  | some P =>
    rw [hf] at hx2
    obtain ⟨i, hi, e⟩ := List.getElem_of_mem (show v ∈ P from hx2)
    have hpre := upF_pre hf i hi
    rw [e] at hpre
    have hl := upF_fuel hf
    have h25 := upF_more hpre 25 (by rw [List.length_take]; omega)
    have hpv : pathU U r v = P.take (i + 1) := by unfold pathU; rw [h25]; rfl
    have hpos : 0 < (pathU U r v).length := by rw [hpv, List.length_take]; omega
    obtain ⟨e1, e2⟩ := pathU_up h hv hr hpos
    refine ⟨⟨hx1, ?_⟩, hpos⟩
    have hm : dAt U v ∈ pathU U r (dAt U v) := by
      unfold pathU at e2 ⊢
      cases hg : upF U r 25 (dAt U v) with
      | none => rw [hg] at e2; simp at e2
      | some Q =>
        obtain ⟨Q', rfl⟩ := upF_last hg
        simp
    have hm2 : dAt U v ∈ P.take (i + 1) := by rw [← hpv, e1]; exact List.mem_append_left _ hm
    unfold pathU
    rw [hf]
    exact List.mem_of_mem_take hm2
theorem under_self (h : rightU U r = true) (hv : 0 ≤ v ∧ v < U.length) (hp : 0 < (pathU U r v).length) : v ∈ underU U r v := by
  rw [underU_yes h, underK_mem]
  refine ⟨hv, ?_⟩
  unfold pathU at hp ⊢
  cases hg : upF U r 25 v with
  | none => rw [hg] at hp; simp at hp
  | some Q =>
    obtain ⟨Q', rfl⟩ := upF_last hg
    simp
theorem under_not (h : rightU U r = true) (hv : 0 ≤ v ∧ v < U.length) (hr : v ≠ r) : dAt U v ∉ underU U r v := fun hm => by
  rw [underU_yes h, underK_mem] at hm
  obtain ⟨hm1, hm2⟩ := hm
  cases hf : upF U r 25 (dAt U v) with
  | none => unfold pathU at hm2; rw [hf] at hm2; simp at hm2
  | some Q =>
    have hm3 : v ∈ Q := by unfold pathU at hm2; rw [hf] at hm2; exact hm2
    obtain ⟨i, hi, e⟩ := List.getElem_of_mem hm3
    have hfull : upF U r 26 v = some (Q ++ [v]) := by rw [upF_step (by omega) hr, hf]; rfl
    exact upF_nodup hfull (i := i) (j := Q.length) hi (by simp) (by rw [List.getElem_append_left hi]; simp [e])

end Go.Proofs.Ytffjpfanmnkmgaa

set_option linter.unusedSimpArgs false
set_option linter.unusedVariables false
namespace Go.Proofs.Ytffjpfanmnkmgaa
open Go.ChangeShapes Go.WideShapes Go.ChangeAt Go.RowKit

set_option maxHeartbeats 400000 in
theorem toInt64S_row (A : Option Addr) (n c : Nat) (V : List Int) (hn : n = V.length) (w : World) (hm : n ≤ 1048576) (H1 : IntsAt w w.heap.size A V) :
    Calls Try.prog 44 #[.slice A n c] w fun e w' => e = .returned (.slice (some ⟨w.heap.size, 0, none⟩) n n) ∧ IntsAt w' w'.heap.size (some ⟨w.heap.size, 0, none⟩) V ∧ Bl w w' ∧ RowsW 2 1 w' (some ⟨w.heap.size, 0, none⟩) n ∧ w.heap.size < w'.heap.size := by
  have K1 := Lib.hid H1
  have HN := Lib.hid hn
  clear H1 hn
  have hmk := make_nums n hm
  go_enter Try.func44, Try.ntmps44
  go_wp2
  clear hmk
  go_loopw [4] (fun i wr => ∃ k : Nat, k ≤ n ∧ i = .int .i64 k ∧ Bl w wr ∧ ∃ f, wr.rowIs w.heap.size 2 n f ∧ ∀ j (h : j < k) (h' : j < V.length), f j = .int .i64 V[j]) (fun i _ => n - (intOf i).toNat)
  case atStart => exact ⟨0, by omega, rfl, (by repeat' (first | exact Bl.refl _ | with_reducible assumption | with_reducible refine Bl.drew_ ?_ | with_reducible refine Bl.drewN_ ?_ _ | with_reducible refine Bl.alloc_ ?_ _ | with_reducible refine Bl.trans_ ?_ (by assumption) | with_reducible refine Bl.trans_ ?_ (And.left (by assumption)))), _, mk1_row _ _ _, fun j h => absurd h (by omega)⟩
  case round =>
    obtain ⟨k, hk, rfl, hbl, f, hrow, hf⟩ := hrel
    by_cases hlt : k < n
    · have hkl : k < V.length := by have := HN.out; omega
      obtain ⟨g1, o1, rfl, hg1, hc1⟩ := K1.out.cell (by omega)
      have p1 := hc1 k hkl
      rw [← (bcell hbl).1 _ _ hg1] at p1
      have F := Lib.hid hf
      have R := Lib.hid hrow
      clear hf hrow hc1
      have z1 := R.out.cell (i := k) (by omega)
      have y1 := R.out.frozen k
      have i0 : (0 : Int) ≤ (k : Int) := by omega
      have i1 : (k : Int) < (n : Int) := by omega
      generalize hv : V[k] = x at p1
      go_wp2
      go_roundw
      case rel =>
        refine ⟨k + 1, by omega, by go_num, Bl.set_ hbl (Nat.le_refl _) _, _, R.out.set k _, fun j hj hj' => ?_⟩
        rcases Nat.lt_or_ge j k with h | h
        · rw [if_neg (by omega)]
          exact F.out j h hj'
        · have e : j = k := by omega
          subst e
          rw [if_pos rfl, hv]
      case measure => simp [intOf]; omega
    · go_wp2
      go_ret
      have e : k = n := by omega
      subst e
      refine ⟨rfl, fun h0 => ⟨w.heap.size, 0, rfl, hrow.lt, fun j hj => ?_⟩, hbl, fun _ => ⟨w.heap.size, 0, _, f, rfl, by omega, hrow⟩, hrow.lt⟩
      rw [csI_len] at hj
      have hjk : j < k := by have := HN.out; omega
      rw [csI_at, ← hf j hjk hj, Nat.zero_add]
      exact hrow.cell hjk

end Go.Proofs.Ytffjpfanmnkmgaa

set_option linter.unusedSimpArgs false
set_option linter.unusedVariables false
namespace Go.Proofs.Ytffjpfanmnkmgaa
open Go.RowKit

/-- A list of which the first and the last i have been changed for each other. -/
def revR (V : List Int) (i : Nat) : List Int := (List.range V.length).map fun k => if k < i ∨ V.length ≤ k + i then V.getD (V.length - 1 - k) 0 else V.getD k 0
theorem revR_len (V : List Int) (i : Nat) : (revR V i).length = V.length := by simp [revR]
theorem revR_at {V : List Int} {i k : Nat} (h : k < (revR V i).length) : (revR V i)[k] = if k < i ∨ V.length ≤ k + i then V.getD (V.length - 1 - k) 0 else V.getD k 0 := by
  simp only [revR, List.getElem_map, List.getElem_range]
theorem revR_zero (V : List Int) : revR V 0 = V := by
  refine List.ext_getElem (revR_len V 0) fun k h1 h2 => ?_
  rw [revR_at, if_neg (by omega)]
  simp [h2]
theorem revR_low {V : List Int} {i : Nat} (h : 2 * i + 1 < V.length) (h' : i < (revR V i).length) : (revR V i)[i] = V.getD i 0 := by
  rw [revR_at, if_neg (by omega)]
theorem revR_high {V : List Int} {i : Nat} (h : 2 * i + 1 < V.length) (h' : V.length - 1 - i < (revR V i).length) : (revR V i)[V.length - 1 - i] = V.getD (V.length - 1 - i) 0 := by
  rw [revR_at, if_neg (by omega)]
theorem revR_step {V : List Int} {i : Nat} (h : 2 * i + 1 < V.length) : ((revR V i).set i (V.getD (V.length - 1 - i) 0)).set (V.length - 1 - i) (V.getD i 0) = revR V (i + 1) := by
  refine List.ext_getElem (by simp [revR_len]) fun k h1 h2 => ?_
  rw [revR_len] at h2
  rw [List.getElem_set, List.getElem_set, revR_at, revR_at]
  by_cases e1 : V.length - 1 - i = k
  · rw [if_pos e1, if_pos (by omega)]
    congr 1
    omega
  · rw [if_neg e1]
    by_cases e2 : i = k
    · rw [if_pos e2, if_pos (by omega), e2]
    · rw [if_neg e2]
      by_cases e3 : k < i ∨ V.length ≤ k + i
      · rw [if_pos e3, if_pos (by omega)]
      · rw [if_neg e3, if_neg (by omega)]
theorem revR_end {V : List Int} {i : Nat} (h : V.length ≤ 2 * i + 1) : revR V i = V.reverse := by
  refine List.ext_getElem (by simp [revR_len]) fun k h1 h2 => ?_
  rw [revR_len] at h1
  rw [List.getElem_reverse, revR_at]
  by_cases e3 : k < i ∨ V.length ≤ k + i
  · rw [if_pos e3]
    simp [show V.length - 1 - k < V.length from by omega]
  · rw [if_neg e3]
    have : V.length - 1 - k = k := by omega
    simp [h1, this]

theorem ownN_put {w : World} {B g n c : Nat} {V : List Int} (h : OwnN w B (.slice (some ⟨g, 0, none⟩) n c) V) (hn : n = V.length) (d : Nat) (x : Int) : OwnN (w.setCell ⟨g, d, none⟩ (.int .i64 x)) B (.slice (some ⟨g, 0, none⟩) n c) (V.set d x) := by
  subst hn
  have h1 := (Owns.stored (show Owns 2 1 w B (.slice (some ⟨g, 0, none⟩) V.length c) V.length (csI V) from h) d (.int .i64 x)).1
  have e : (csI V).set d (.int .i64 x) = csI (V.set d x) := by simp [csI, List.map_set]
  rw [e] at h1
  unfold OwnN
  rw [List.length_set]
  exact h1
theorem ownN_cell {w : World} {B g n c : Nat} {V : List Int} (h : OwnN w B (.slice (some ⟨g, 0, none⟩) n c) V) (hn : n = V.length) {d : Nat} (hd : d < V.length) : w.cell? ⟨g, d, none⟩ = some (.int .i64 V[d]) ∧ w.frozen? ⟨g, d, none⟩ = false ∧ g < w.heap.size := by
  subst hn
  have h' : w.ownsRow B 2 1 (.slice (some ⟨g, 0, none⟩) V.length c) V.length (csI V) := h
  refine ⟨?_, World.ownsRow.frozenAt h' d, (Owns.lt h g rfl).2⟩
  rw [World.ownsRow.cellAt h' d (by rw [Nat.mul_one]; exact hd), List.getElem?_eq_getElem (by rw [csI_len]; exact hd), csI_at]

set_option maxRecDepth 100000 in
set_option maxHeartbeats 2000000 in
theorem reverse_any (B g n c : Nat) (V : List Int) (hn : n = V.length) (w : World) (hm : n ≤ 1048576) (hO : OwnN w B (.slice (some ⟨g, 0, none⟩) n c) V) :
    Calls Try.prog 114 #[.slice (some ⟨g, 0, none⟩) n c] w fun e w' => e = .returned (.tuple #[]) ∧ OwnN w' B (.slice (some ⟨g, 0, none⟩) n c) V.reverse ∧ Turn (fun q => q = g) w w' := by
  have O := Lib.hid hO
  have HN := Lib.hid hn
  clear hO hn
  go_enter Try.func114, Try.ntmps114
  go_wp2_with fail
  go_loopw [2, 3] (fun iv jv wr => ∃ i : Nat, 2 * i ≤ n + 1 ∧ iv = .int .i64 (i : Int) ∧ jv = .int .i64 ((n : Int) - 1 - (i : Int)) ∧ OwnN wr B (.slice (some ⟨g, 0, none⟩) n c) (revR V i) ∧ Turn (fun q => q = g) w wr) (fun iv _ _ => n - (intOf iv).toNat)
  case atStart => exact ⟨0, by omega, rfl, by simp, by rw [revR_zero]; exact O.out, Turn.refl _ _⟩
  case round =>
    obtain ⟨i, hi, rfl, rfl, hO, hT⟩ := hrel
    have OO := Lib.hid hO
    have TT := Lib.hid hT
    clear hO hT
    by_cases hlt : 2 * i + 1 < n
    · have hlV : 2 * i + 1 < V.length := by have := HN.out; omega
      have hl1 : i < (revR V i).length := by rw [revR_len]; omega
      have hl2 : V.length - 1 - i < (revR V i).length := by rw [revR_len]; omega
      obtain ⟨a1, a2, a3⟩ := ownN_cell OO.out (by rw [revR_len]; exact HN.out) hl1
      obtain ⟨b1, b2, -⟩ := ownN_cell OO.out (by rw [revR_len]; exact HN.out) hl2
      rw [revR_low hlV] at a1
      rw [revR_high hlV] at b1
      have ST := Lib.hid (revR_step hlV)
      obtain ⟨j, hj⟩ : ∃ j, j = V.length - 1 - i := ⟨_, rfl⟩
      rw [← hj] at b1 b2 ST
      have hjn : (n : Int) - 1 - (i : Int) = (j : Int) := by have := HN.out; omega
      rw [hjn]
      have hj1 : j = n - 1 - i := by have := HN.out; omega
      generalize V.getD i 0 = x at a1 ST
      generalize V.getD j 0 = y at b1 ST
      have i0 : (0 : Int) ≤ (i : Int) := by omega
      have i1 : (i : Int) < (n : Int) := by omega
      have j0 : (0 : Int) ≤ (j : Int) := by omega
      have j1 : (j : Int) < (n : Int) := by omega
      have hij : (i : Int) < (j : Int) := by omega
      have HJ := Lib.hid hj1
      clear hj hjn hj1 hl1 hl2 hlV
      go_wp2
      go_region
      all_goals (go_wp2; go_roundw)
      all_goals (first | (case measure => (simp [intOf]; omega)) | skip)
      all_goals (refine ⟨i + 1, by omega, by go_num, by first | rfl | (have := HJ.out; congr 1; omega), ?_, ?_⟩)
      all_goals (first
        | (rw [← ST.out]; exact OwnN.bl (ownN_put (ownN_put OO.out (by rw [revR_len]; exact HN.out) i y) (by rw [List.length_set, revR_len]; exact HN.out) j x) (by first | exact Bl.refl _ | exact (Bl.refl _).drew_ | exact (Bl.refl _).drewN_ _))
        | exact Turn.bl (Turn.set (Turn.set TT.out (p := ⟨g, i, none⟩) (.inl rfl) _) (p := ⟨g, j, none⟩) (.inl rfl) _) (by first | exact Bl.refl _ | exact (Bl.refl _).drew_ | exact (Bl.refl _).drewN_ _))
    · have hji : (n : Int) - 1 - (i : Int) ≤ (i : Int) := by omega
      have HE := Lib.hid (revR_end (V := V) (i := i) (by have := HN.out; omega))
      go_wp2
      go_end0
      exact ⟨rfl, by rw [← HE.out]; exact OO.out, TT.out⟩

end Go.Proofs.Ytffjpfanmnkmgaa

set_option linter.unusedSimpArgs false
set_option linter.unusedVariables false
namespace Go.Proofs.Ytffjpfanmnkmgaa
open Go.RowKit

set_option maxRecDepth 100000 in
set_option maxHeartbeats 1000000 in
theorem indexC_any (A : Option Addr) (n c : Nat) (V : List Int) (hn : n = V.length) (x : Int) (w : World) (hm : n ≤ 1048576) (H1 : IntsAt w w.heap.size A V) :
    Calls Try.prog 115 #[.slice A n c, .int .i64 x] w fun e w' => ∃ r : Int, e = .returned (.int .i64 r) ∧ (0 ≤ r ↔ x ∈ V) ∧ Bl w w' := by
  have K1 := Lib.hid H1
  have HN := Lib.hid hn
  clear H1 hn
  go_enter Try.func115, Try.ntmps115
  go_wp2_with fail
  go_loopw [8] (fun i wr => ∃ k : Nat, k ≤ n ∧ i = .int .i64 k ∧ Bl w wr ∧ x ∉ V.take k) (fun i _ => n - (intOf i).toNat)
  case atStart => exact ⟨0, by omega, rfl, Bl.refl _, by simp⟩
  case round =>
    obtain ⟨k, hk, rfl, hbl, hno⟩ := hrel
    have NO := Lib.hid hno
    clear hno
    by_cases hlt : k < n
    · have hkl : k < V.length := by have := HN.out; omega
      obtain ⟨g1, o1, rfl, hg1, hc1⟩ := K1.out.cell (by omega)
      have p1 := ((bcell hbl).1 _ _ hg1).trans (hc1 k hkl)
      have MEM := Lib.hid (List.getElem_mem hkl)
      have TK := Lib.hid (List.take_succ_eq_append_getElem hkl)
      have i0 : (0 : Int) ≤ (k : Int) := by omega
      have i1 : (k : Int) < (n : Int) := by omega
      clear hc1
      generalize V[k] = y at *
      by_cases hxy : x = y
      · subst hxy
        go_wp2
        go_ret
        exact ⟨_, rfl, ⟨fun _ => MEM.out, fun _ => by omega⟩, hbl⟩
      · have hb : (x == y) = false := by simpa using hxy
        have NX := Lib.hid (show x ∉ V.take (k + 1) from by
          rw [TK.out, List.mem_append]
          rintro (h | h)
          · exact NO.out h
          · exact hxy (by simpa using h))
        go_wp2
        go_roundw
        case rel => exact ⟨k + 1, by omega, by go_num, hbl, NX.out⟩
        case measure => simp [intOf]; omega
    · have NX := Lib.hid (show x ∉ V from by
        have := NO.out
        rwa [List.take_of_length_le (by have := HN.out; omega)] at this)
      go_wp2
      go_ret
      exact ⟨-1, rfl, ⟨fun h => by omega, fun h => absurd h NX.out⟩, hbl⟩

set_option maxRecDepth 100000 in
set_option maxHeartbeats 1000000 in
theorem containsC_any (A : Option Addr) (n c : Nat) (V : List Int) (hn : n = V.length) (x : Int) (w : World) (hm : n ≤ 1048576) (H1 : IntsAt w w.heap.size A V) :
    Calls Try.prog 71 #[.slice A n c, .int .i64 x] w fun e w' => e = .returned (.bool (decide (x ∈ V))) ∧ Bl w w' := by
  have K1 := Lib.hid H1
  have HN := Lib.hid hn
  have HM := Lib.hid hm
  clear H1 hn hm
  go_enter Try.func71, Try.ntmps71
  go_wp2_with fail
  refine (indexC_any A n c V HN.out x _ HM.out K1.out).mono ?_
  rintro e w1 ⟨r, rfl, hr, hb⟩
  have HB := Lib.hid hb
  have HR := Lib.hid hr
  clear hr hb
  by_cases h0 : 0 ≤ r
  · have hd : decide (0 ≤ r) = true := by simpa using h0
    have HX := Lib.hid (decide_eq_true (HR.out.1 h0))
    go_wp2
    go_ret
    exact ⟨ret_bool HX.out.symm, HB.out⟩
  · have hd : decide (0 ≤ r) = false := by simpa using h0
    have HX := Lib.hid (decide_eq_false (fun h => h0 (HR.out.2 h)))
    go_wp2
    go_ret
    exact ⟨ret_bool HX.out.symm, HB.out⟩

end Go.Proofs.Ytffjpfanmnkmgaa
