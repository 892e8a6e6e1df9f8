/-
  What is proved here: plain facts on the pieces of any path, and on a path that is gone backwards in the turned graph; plain facts on the tree of a graph: its paths are shortest paths; plain facts on a search that marks each node once; plain facts on what is under the root of the tree of a graph; the code's search that marks each node that is reached; ReachedFrom of the code and of the model. No conditions beyond those that each theorem states.
-/
import Derived.Test.YtffjpfanmnkmgaaJG17
import Derived.Test.YtffjpfanmnkmgaaJG14
import Derived.Test.YtffjpfanmnkmgaaJG12
import Derived.Test.YtffjpfanmnkmgaaJG13
import Derived.Test.YtffjpfanmnkmgaaJG15
import Derived.Test.YtffjpfanmnkmgaaJG06
import Derived.Test.YtffjpfanmnkmgaaJG10
import Derived.Deep.MidRow
set_option linter.unusedSimpArgs false
set_option linter.unusedVariables false
namespace Go.Proofs.Ytffjpfanmnkmgaa
open Go.RowKit


end Go.Proofs.Ytffjpfanmnkmgaa

set_option linter.unusedSimpArgs false
set_option linter.unusedVariables false
namespace Go.Proofs.Ytffjpfanmnkmgaa
open Go.RowKit

theorem treeU_at {N : Nat} {L : List Arc3} {D : List Int} {v : Int} (h0 : 0 ≤ v) (h1 : v < N) : dAt (treeU N L D) v = upTr L D v := by
  have h : v.toNat < N := by omega
  have e : ((v.toNat : Nat) : Int) = v := by omega
  unfold dAt treeU
  rw [List.getD_eq_getElem?_getD, List.getElem?_map, List.getElem?_range h]
  simp [e]
theorem upTr_cases (L : List Arc3) (D : List Int) (v : Int) : upTr L D v = -1 ∨ ∃ a ∈ L, a.2.1 = v ∧ tightB D a = true ∧ upTr L D v = a.1 := by
  unfold upTr
  cases h : L.find? (fun a => a.2.1 == v && tightB D a) with
  | none => exact .inl rfl
  | some a =>
    have := List.find?_some h
    simp only [Bool.and_eq_true, beq_iff_eq] at this
    exact .inr ⟨a, List.mem_of_find?_eq_some h, this.1, this.2, rfl⟩
theorem tightB_iff {D : List Int} {a : Arc3} : tightB D a = true ↔ 0 ≤ dAt D a.1 ∧ dAt D a.1 + a.2.2 = dAt D a.2.1 := by simp [tightB]
theorem upTr_yes {N s v : Int} {L : List Arc3} {D : List Int} (hD : IsDist N L s D) (h0 : 0 ≤ v) (h1 : v < N) (hd : 0 ≤ dAt D v) (hv : v ≠ s) : ∃ a ∈ L, a.2.1 = v ∧ tightB D a = true ∧ upTr L D v = a.1 := by
  rcases hD.back v h0 h1 hd with e | ⟨a, ha, e1, e2, e3⟩
  · exact absurd e hv
  · unfold upTr
    cases h : L.find? (fun a => a.2.1 == v && tightB D a) with
    | none =>
      exfalso
      refine List.find?_eq_none.1 h a ha ?_
      have : tightB D a = true := tightB_iff.2 ⟨e2, by rw [e1]; exact e3.symm⟩
      simp [e1, this]
    | some b =>
      have := List.find?_some h
      simp only [Bool.and_eq_true, beq_iff_eq] at this
      exact ⟨b, List.mem_of_find?_eq_some h, this.1, this.2, rfl⟩
theorem upTr_none {N s v : Int} {L : List Arc3} {D : List Int} (ho : okB N L = true) (hD : IsDist N L s D) (hd : dAt D v < 0 ∨ v = s) : upTr L D v = -1 := by
  rcases upTr_cases L D v with e | ⟨a, ha, e1, e2, e3⟩
  · exact e
  · have h := tightB_iff.1 e2
    have hr := arcsIn_of_ok ho a ha
    rw [e1] at h
    rcases hd with hd | rfl
    · omega
    · have := hD.start
      omega
theorem tree_right {N s : Int} {L : List Arc3} {D : List Int} (ho : okB N L = true) (hs : 0 ≤ s ∧ s < N) : rightU (treeU N.toNat L D) s = true := by
  have hN := okB_elim ho
  unfold rightU
  rw [decide_eq_true_eq, treeU_len]
  refine ⟨by omega, by omega, fun x hx => ?_⟩
  obtain ⟨i, -, rfl⟩ := List.mem_map.1 hx
  rcases upTr_cases L D i with e | ⟨a, ha, -, -, e⟩
  · rw [e]; omega
  · have := arcsIn_of_ok ho a ha
    rw [e]; omega
theorem step_left {L : List Arc3} {Q : List Int} {v : Int} {j : Nat} (h : j + 1 < Q.length) : stepW L (Q ++ [v]) j = stepW L Q j := by
  unfold stepW
  rw [List.getD_eq_getElem?_getD, List.getD_eq_getElem?_getD, List.getD_eq_getElem?_getD, List.getD_eq_getElem?_getD, List.getElem?_append_left (by omega), List.getElem?_append_left h]
theorem sum_left {L : List Arc3} {Q : List Int} {v : Int} : ∀ k, k < Q.length → sumW L (Q ++ [v]) k = sumW L Q k
  | 0, _ => rfl
  | k + 1, h => by
    unfold sumW
    rw [sum_left k (by omega), step_left (by omega)]
theorem step_end {L : List Arc3} {Q : List Int} {u v : Int} : stepW L (Q ++ [u] ++ [v]) Q.length = wtL u v L := by
  unfold stepW
  simp
/-- The walk up from a node that is reached. -/
theorem tree_walk {N s : Int} {L : List Arc3} {D : List Int} (ho : okB N L = true) (hs : 0 ≤ s ∧ s < N) (hD : IsDist N L s D) : ∀ (n : Nat) (v : Int), (dAt D v).toNat = n → 0 ≤ v → v < N → 0 ≤ dAt D v →
    ∃ f P, upF (treeU N.toNat L D) s f v = some P ∧ (∀ j, j < P.length - 1 → stepW L P j ≠ 0) ∧ sumW L P (P.length - 1) = dAt D v := by
  intro n
  induction n using Nat.strongRecOn with
  | ind n ih =>
    intro v hn h0 h1 hd
    by_cases hv : v = s
    · refine ⟨1, [v], upF_root (by omega) hv, fun j hj => absurd hj (by simp), ?_⟩
      rw [hv, hD.start]
      rfl
    · obtain ⟨a, ha, e1, e2, e3⟩ := upTr_yes hD h0 h1 hd hv
      have ht := tightB_iff.1 e2
      rw [e1] at ht
      have hr := arcsIn_of_ok ho a ha
      obtain ⟨f, Q, hQ, hs1, hs2⟩ := ih _ (by omega) a.1 rfl hr.1 hr.2.1 ht.1
      have hU : dAt (treeU N.toNat L D) v = a.1 := by rw [treeU_at h0 (by omega), e3]
      refine ⟨f + 1, Q ++ [v], by rw [upF_step (by omega) hv, hU, hQ]; rfl, ?_⟩
      obtain ⟨Q', rfl⟩ := upF_last hQ
      have hw : wtL a.1 v L = a.2.2 := by rw [← e1]; exact wtL_mem (okB_elim ho).2.2.2.2 ha
      simp only [List.length_append, List.length_cons, List.length_nil, Nat.zero_add, Nat.add_sub_cancel] at hs1 hs2 ⊢
      refine ⟨fun j hj => ?_, ?_⟩
      · by_cases hl : j < Q'.length
        · rw [step_left (by simp; omega)]
          exact hs1 j hl
        · obtain rfl : j = Q'.length := by omega
          rw [step_end, hw]
          omega
      · rw [show sumW L (Q' ++ [a.1] ++ [v]) (Q'.length + 1) = sumW L (Q' ++ [a.1] ++ [v]) Q'.length + stepW L (Q' ++ [a.1] ++ [v]) Q'.length from rfl, sum_left _ (by simp), hs2, step_end, hw]
        exact ht.2
theorem tree_none {N s : Int} {L : List Arc3} {D : List Int} (ho : okB N L = true) (hD : IsDist N L s D) {v : Int} (h0 : 0 ≤ v) (h1 : v < N) (hd : dAt D v < 0) : pathU (treeU N.toNat L D) s v = [] := by
  unfold pathU
  have hv : v ≠ s := fun e => by rw [e, hD.start] at hd; omega
  rw [upF_step (by omega) hv, treeU_at h0 (by omega), upTr_none ho hD (.inl hd), upF_neg (by omega)]
  rfl
/-- What the law asks of a tree's path. -/
theorem tree_path {N s : Int} {L : List Arc3} {D : List Int} (ho : okB N L = true) (hs : 0 ≤ s ∧ s < N) (hD : IsDist N L s D) {v : Int} (h0 : 0 ≤ v) (h1 : v < N) (hd : 0 ≤ dAt D v) :
    ∃ P, P = pathU (treeU N.toNat L D) s v ∧ pathB N L P = true ∧ lenI N L P = dAt D v ∧ (∃ Q, P = s :: Q) ∧ ∃ Q, P = Q ++ [v] := by
  obtain ⟨f, P, h, h2, h3⟩ := tree_walk ho hs hD _ v rfl h0 h1 hd
  obtain ⟨r1, r2, r3⟩ := rightU_elim (tree_right (D := D) ho hs)
  have hl := upF_len h (fun x hx => (r3 x hx).2) (by rw [treeU_len]; omega)
  have h25 := upF_more h 25 (by omega)
  obtain ⟨Q, hq⟩ := upF_first h
  have hp : pathB N L P = true := pathB_yes ho (by rw [hq]; simp) (by omega) (by rw [hq]; simpa using hs) h2
  refine ⟨P, by unfold pathU; rw [h25]; rfl, hp, by rw [lenI_yes hp, h3], ⟨Q, hq⟩, upF_last h⟩

end Go.Proofs.Ytffjpfanmnkmgaa

set_option linter.unusedSimpArgs false
set_option linter.unusedVariables false
namespace Go.Proofs.Ytffjpfanmnkmgaa
open Go.RowKit

theorem countP_lt_ {α : Type} {p q : α → Bool} : ∀ {l : List α}, (∀ x ∈ l, p x = true → q x = true) → ∀ {x : α}, x ∈ l → q x = true → p x = false → l.countP p < l.countP q
  | [], _, x, hx, _, _ => by simp at hx
  | y :: l, h, x, hx, hq, hp => by
    have hle : l.countP p ≤ l.countP q := List.countP_mono_left fun z hz => h z (by simp [hz])
    rcases List.mem_cons.1 hx with rfl | hx
    · rw [List.countP_cons_of_neg (by simp [hp]), List.countP_cons_of_pos hq]
      omega
    · have ih := countP_lt_ (fun z hz => h z (by simp [hz])) hx hq hp
      by_cases hy : p y = true
      · rw [List.countP_cons_of_pos hy, List.countP_cons_of_pos (h y (by simp) hy)]
        omega
      · rw [List.countP_cons_of_neg hy]
        have := List.countP_cons (p := q) (l := l) (a := y)
        rw [this]
        split <;> omega

/-- Is the node marked? -/
def bT (F : List Bool) (u : Int) : Bool := F.getD u.toNat false
def falses (F : List Bool) : Nat := (List.range 24).countP fun i => !F.getD i false
theorem bT_set {F : List Bool} {v : Nat} (hv : v < F.length) {u : Int} (hu : 0 ≤ u) : bT (F.set v true) u = if u = (v : Int) then true else bT F u := by
  unfold bT
  rw [List.getD_eq_getElem?_getD, List.getD_eq_getElem?_getD, List.getElem?_set]
  by_cases e : u = (v : Int)
  · subst e
    simp [hv]
  · rw [if_neg (by omega), if_neg e]
/-- What a search makes of the marks, D being how far all are from the start. -/
structure Grow (L : List (Int × Int × Int)) (D : List Int) (F F' : List Bool) : Prop where
  mono : ∀ u, 0 ≤ u → bT F u = true → bT F' u = true
  sound : ∀ u, 0 ≤ u → bT F' u = true → bT F u = true ∨ 0 ≤ dAt D u
  shut : ∀ a ∈ L, bT F' a.1 = true → bT F a.1 = false → bT F' a.2.1 = true
theorem Grow.refl (L : List (Int × Int × Int)) (D : List Int) (F : List Bool) : Grow L D F F := ⟨fun _ _ h => h, fun _ _ h => .inl h, fun a _ h h' => by rw [h] at h'; cases h'⟩
theorem Grow.trans {N : Int} {L : List (Int × Int × Int)} {D : List Int} {F G H : List Bool} (hL : ArcsIn N L) (h : Grow L D F G) (k : Grow L D G H) : Grow L D F H := by
  refine ⟨fun u h0 hu => k.mono u h0 (h.mono u h0 hu), fun u h0 hu => ?_, fun a ha h1 h2 => ?_⟩
  · rcases k.sound u h0 hu with h1 | h1
    · exact h.sound u h0 h1
    · exact .inr h1
  · have hin := hL a ha
    cases hg : bT G a.1 with
    | true => exact k.mono _ hin.2.2.1 (h.shut a ha hg h2)
    | false => exact k.shut a ha h1 hg
theorem falses_mono {F G : List Bool} (h : ∀ u, 0 ≤ u → bT F u = true → bT G u = true) : falses G ≤ falses F :=
  List.countP_mono_left fun i hi hg => by
    have := h (i : Int) (by omega)
    simp only [bT, Int.toNat_natCast] at this
    cases hf : F.getD i false with
    | true => rw [this hf] at hg; cases hg
    | false => rfl
theorem falses_set {F : List Bool} {v : Nat} (hl : F.length = 24) (hv : v < 24) (hf : bT F v = false) : falses (F.set v true) < falses F := by
  refine countP_lt_ (x := v) (fun i hi hg => ?_) (by simpa using hv) ?_ ?_
  · have := bT_set (F := F) (v := v) (by omega) (u := (i : Int)) (by omega)
    simp only [bT, Int.toNat_natCast] at this
    rw [this] at hg
    split at hg
    · cases hg
    · exact hg
  · simp only [bT, Int.toNat_natCast] at hf
    rw [hf]; rfl
  · have := bT_set (F := F) (v := v) (by omega) (u := (v : Int)) (by omega)
    simp only [bT, Int.toNat_natCast] at this
    rw [this]
    simp
/-- A node is marked, then all to which its arcs lead are searched from. -/
theorem Grow.node {N : Int} {L : List (Int × Int × Int)} {D : List Int} {F F' : List Bool} {v : Nat} (hL : ArcsIn N L) (hl : F.length = 24) (hv : v < 24) (hr : 0 ≤ dAt D v) (h : Grow L D (F.set v true) F') (ha : ∀ a ∈ L, a.1 = (v : Int) → bT F' a.2.1 = true) : Grow L D F F' ∧ bT F' v = true := by
  have hs := fun u (h0 : 0 ≤ u) => bT_set (F := F) (v := v) (by omega) h0
  have hvt : bT F' v = true := h.mono _ (by omega) (by rw [hs _ (by omega), if_pos rfl])
  refine ⟨⟨fun u h0 hu => h.mono u h0 (by rw [hs u h0]; split <;> simp [hu]), fun u h0 hu => ?_, fun a hL' h1 h2 => ?_⟩, hvt⟩
  · rcases h.sound u h0 hu with h1 | h1
    · rw [hs u h0] at h1
      by_cases e : u = (v : Int)
      · rw [e]; exact .inr hr
      · rw [if_neg e] at h1
        exact .inl h1
    · exact .inr h1
  · by_cases e : a.1 = (v : Int)
    · exact ha a hL' e
    · refine h.shut a hL' h1 ?_
      rw [hs _ (hL a hL').1, if_neg e]
      exact h2
/-- Behind the search from the start just the nodes with a distance are marked. -/
theorem grow_all {N s : Int} {L : List (Int × Int × Int)} {F : List Bool} (hL : ArcsIn N L) (hN : N ≤ 24) (h0 : 0 ≤ s) (h1 : s < N) (h : Grow L (distL N L s) (List.replicate 24 false) F) (hs : bT F s = true) (u : Int) (hu0 : 0 ≤ u) : bT F u = true ↔ 0 ≤ dAt (distL N L s) u := by
  have hf : ∀ x, bT (List.replicate 24 false) x = false := fun x => by
    unfold bT
    rw [List.getD_eq_getElem?_getD, List.getElem?_replicate]
    split <;> rfl
  have hD := distL_is hL hN h0 h1
  constructor
  · intro hx
    rcases h.sound u hu0 hx with h2 | h2
    · rw [hf] at h2; cases h2
    · exact h2
  · have key : ∀ (n : Nat) (u : Int), 0 ≤ u → u < N → 0 ≤ dAt (distL N L s) u → (dAt (distL N L s) u).toNat < n → bT F u = true := by
      intro n
      induction n with
      | zero => intro u _ _ _ h; omega
      | succ n ih =>
        intro u hu0 hu1 hd hn
        rcases hD.back u hu0 hu1 hd with rfl | ⟨a, ha, rfl, hb1, hb2⟩
        · exact hs
        · have hin := hL a ha
          exact h.shut a ha (ih a.1 hin.1 hin.2.1 hb1 (by omega)) (hf _)
    intro hd
    have hu1 : u < N := by
      rcases Int.lt_or_le u N with h | h
      · exact h
      · have := dAt_out (D := distL N L s) (v := u) (by rw [hD.len]; omega)
        omega
    exact key _ u hu0 hu1 hd (Nat.lt_succ_self _)

/-- The nodes with a distance, rising. -/
def seenL (D : List Int) (k : Nat) : List Int := ((List.range k).filter fun (i : Nat) => decide (0 ≤ dAt D (i : Int))).map fun (i : Nat) => (i : Int)
theorem seenL_yes {D : List Int} {k : Nat} (h : 0 ≤ dAt D (k : Int)) : seenL D (k + 1) = seenL D k ++ [(k : Int)] := by
  unfold seenL
  rw [List.range_succ, List.filter_append, List.map_append]
  simp [h]
theorem seenL_no {D : List Int} {k : Nat} (h : ¬ 0 ≤ dAt D (k : Int)) : seenL D (k + 1) = seenL D k := by
  unfold seenL
  rw [List.range_succ, List.filter_append, List.map_append]
  simp [h]
theorem seenL_len (D : List Int) (k : Nat) : (seenL D k).length ≤ k := by
  unfold seenL
  rw [List.length_map]
  have := List.length_filter_le (fun (i : Nat) => decide (0 ≤ dAt D (i : Int))) (List.range k)
  simpa using this
theorem seenL_out {D : List Int} {q k : Nat} (h : D.length = q) (hk : q ≤ k) : seenL D k = seenL D q := by
  induction k with
  | zero => obtain rfl : q = 0 := by omega
            rfl
  | succ k ih =>
    by_cases e : q = k + 1
    · rw [e]
    · rw [seenL_no (by rw [dAt_out (by omega)]; omega)]
      exact ih (by omega)

end Go.Proofs.Ytffjpfanmnkmgaa

set_option linter.unusedSimpArgs false
set_option linter.unusedVariables false
namespace Go.Proofs.Ytffjpfanmnkmgaa
open Go.RowKit

theorem tree_seen {N s : Int} {L : List Arc3} {D : List Int} (ho : okB N L = true) (hs : 0 ≤ s ∧ s < N) (hD : IsDist N L s D) : ∀ k, k ≤ N.toNat → underK (treeU N.toNat L D) s s k = seenL D k
  | 0, _ => rfl
  | k + 1, h => by
    have ih := tree_seen ho hs hD k (by omega)
    by_cases hd : 0 ≤ dAt D (k : Int)
    · obtain ⟨P, hP, -, -, ⟨Q, hq⟩, -⟩ := tree_path ho hs hD (v := (k : Int)) (by omega) (by omega) hd
      rw [underK_yes (by rw [← hP, hq]; simp), seenL_yes hd, ih]
    · rw [underK_no (by rw [tree_none ho hD (by omega) (by omega) (by omega)]; simp), seenL_no hd, ih]
theorem tree_up_pos {N s v : Int} {L : List Arc3} {D : List Int} (ho : okB N L = true) (hs : 0 ≤ s ∧ s < N) (hD : IsDist N L s D) (h0 : 0 ≤ v) (h1 : v < N) (hu : 0 ≤ dAt (treeU N.toNat L D) v) : v ≠ s ∧ 0 < (pathU (treeU N.toNat L D) s v).length := by
  rw [treeU_at h0 (by omega)] at hu
  have hd : ¬ (dAt D v < 0 ∨ v = s) := fun h => by
    rw [upTr_none ho hD h] at hu
    omega
  refine ⟨fun e => hd (.inr e), ?_⟩
  obtain ⟨P, hP, -, -, ⟨Q, hq⟩, -⟩ := tree_path ho hs hD h0 h1 (by omega)
  rw [← hP, hq]
  simp

end Go.Proofs.Ytffjpfanmnkmgaa

set_option linter.unusedSimpArgs false
set_option linter.unusedVariables false
namespace Go.Proofs.Ytffjpfanmnkmgaa
open Go.RowKit

/-- The marks lie in an array of 24. -/
structure BoolsAt (w : World) (b : Nat) (F : List Bool) : Prop where
  len : F.length = 24
  lt : b < w.heap.size
  cell : ∀ i (h : i < F.length), w.cell? ⟨b, i, none⟩ = some (.bool F[i])
  free : ∀ i : Nat, i < 24 → w.frozen? ⟨b, i, none⟩ = false
theorem BoolsAt.turn {w w' : World} {b : Nat} {F : List Bool} (h : BoolsAt w b F) {S : Nat → Prop} (k : Turn S w w') (hS : ¬ S b) : BoolsAt w' b F :=
  ⟨h.len, Nat.lt_of_lt_of_le h.lt k.size, fun i hi => (k.cells h.lt hS i).1.trans (h.cell i hi), fun i hi => (k.cells h.lt hS i).2.trans (h.free i hi)⟩
theorem BoolsAt.bl {w w' : World} {b : Nat} {F : List Bool} (h : BoolsAt w b F) (k : Bl w w') : BoolsAt w' b F := h.turn (Turn.of_bl (S := fun _ => False) k) id
theorem BoolsAt.set {w : World} {b : Nat} {F : List Bool} (h : BoolsAt w b F) (u : Nat) : BoolsAt (w.setCell ⟨b, u, none⟩ (.bool true)) b (F.set u true) := by
  refine ⟨by rw [List.length_set]; exact h.len, by simpa using h.lt, fun i hi => ?_, fun i hi => by rw [World.frozen?_setCell]; exact h.free i hi⟩
  have hi' : i < F.length := by rw [List.length_set] at hi; exact hi
  rw [List.getElem_set]
  by_cases e : u = i
  · subst e
    rw [World.cell?_setCell_same' _ _ _ (by rw [h.cell _ hi']; rfl), if_pos rfl]
  · rw [World.cell?_setCell_other _ _ _ _ (by intro e'; injection e' with _ e2; exact e e2), h.cell i hi', if_neg e]
/-- What the search has beside its marks. -/
structure RIn (w : World) (rb gb fb : Nat) (N : Int) (A : Option Addr) (n c : Nat) (L : List Arc3) : Prop where
  g0 : w.cell? ⟨gb, 0, none⟩ = some (.int .i64 N)
  g1 : w.cell? ⟨gb, 1, none⟩ = some (.slice A n c)
  f0 : w.cell? ⟨fb, 0, none⟩ = some (.func (.func 123) #[] #[.pointer (some ⟨rb, 0, none⟩), .pointer (some ⟨gb, 0, none⟩), .pointer (some ⟨fb, 0, none⟩)])
  arcs : ArcsAt w w.heap.size A L
  ne : gb ≠ rb ∧ fb ≠ rb ∧ (0 < L.length → blockOf A ≠ some rb)
theorem RIn.turn {w w' : World} {rb gb fb : Nat} {N : Int} {A : Option Addr} {n c : Nat} {L : List Arc3} (h : RIn w rb gb fb N A n c L) (k : Turn (fun i => i = rb) w w') : RIn w' rb gb fb N A n c L :=
  ⟨(k.cell (World.block_lt_of_cell? _ _ h.g0) h.ne.1 0).trans h.g0, (k.cell (World.block_lt_of_cell? _ _ h.g1) h.ne.1 1).trans h.g1, (k.cell (World.block_lt_of_cell? _ _ h.f0) h.ne.2.1 0).trans h.f0,
    (h.arcs.turn (Nat.le_refl _) k (fun h0 g e => fun e2 => h.ne.2.2 h0 (by rw [e, e2]))).more k.size, h.ne⟩

set_option maxRecDepth 100000 in
set_option maxHeartbeats 8000000 in
theorem goTo_any (N s : Int) (A : Option Addr) (n c : Nat) (L : List Arc3) (hn : n = L.length) (hc : n ≤ c) (hm : n ≤ 1048576) (ho : okB N L = true) (h0 : 0 ≤ s) (h1 : s < N) (rb gb fb : Nat) :
    ∀ (m : Nat) (F : List Bool) (v : Nat) (w : World), falses F < m → (v : Int) < N → 0 ≤ dAt (distL N L s) v → BoolsAt w rb F → RIn w rb gb fb N A n c L →
      Calls Try.prog 123 #[.int .i64 (v : Int), .pointer (some ⟨rb, 0, none⟩), .pointer (some ⟨gb, 0, none⟩), .pointer (some ⟨fb, 0, none⟩)] w fun e w' =>
        e = .returned (.tuple #[]) ∧ ∃ F', BoolsAt w' rb F' ∧ Grow L (distL N L s) F F' ∧ bT F' (v : Int) = true ∧ Turn (fun i => i = rb) w w' := by
  have HN := Lib.hid hn
  have HO := Lib.hid ho
  have hN24 := (okB_elim ho).2.1
  have HD := Lib.hid (distL_is (s := s) (arcsIn_of_ok ho) hN24 h0 h1)
  obtain ⟨D, hD⟩ : ∃ D, D = distL N L s := ⟨_, rfl⟩
  rw [← hD] at HD ⊢
  clear hD hn ho
  intro m
  induction m with
  | zero => intro F v w hf; omega
  | succ m ih =>
    have IH := Lib.hid ih
    clear ih
    intro F v w hf hv hd hB hI
    have BB := Lib.hid hB
    have II := Lib.hid hI
    have hv24 : v < 24 := by omega
    have p0 := BB.out.cell v (by rw [BB.out.len]; exact hv24)
    have p1 := BB.out.free v hv24
    have v0 : (0 : Int) ≤ (v : Int) := by omega
    have v1 : (v : Int) < 24 := by omega
    have EB := Lib.hid (show bT F (v : Int) = F[v]'(by rw [BB.out.len]; exact hv24) from by unfold bT; simp [List.getD_eq_getElem?_getD, BB.out.len, hv24])
    obtain ⟨g0, g1, f0, -, ne1, ne2, -⟩ := hI
    have hlt := BB.out.lt
    clear hB
    cases hb : F[v]'(by rw [BB.out.len]; exact hv24) with
    | true =>
      rw [hb] at p0 EB
      go_enter Try.func123, Try.ntmps123
      go_wp2
      ((try simp only [Exit.inBlock, Exit.then]); refine bodyPost_ret (results_none rfl _ _ _) rfl ?_)
      exact ⟨rfl, F, BB.out, Grow.refl _ _ _, EB.out, Turn.refl _ _⟩
    | false =>
      rw [hb] at p0 EB
      have FS := Lib.hid (falses_set BB.out.len hv24 EB.out)
      have B1 := Lib.hid (BB.out.set v)
      obtain ⟨w1, hw1⟩ : ∃ w1, w1 = w.setCell ⟨rb, v, none⟩ (.bool true) := ⟨_, rfl⟩
      have T1 := Lib.hid (show Turn (fun i => i = rb) w w1 from by rw [hw1]; exact Turn.set (p := ⟨rb, v, none⟩) (Turn.refl (fun i => i = rb) _) (.inl rfl) _)
      have I1 := Lib.hid (II.out.turn T1.out)
      rw [← hw1] at B1
      have HW1 := Lib.hid hw1
      clear hw1
      go_enter Try.func123, Try.ntmps123
      go_wp2_with fail
      rw [← HW1.out]
      have hbo := (okB_elim HO.out).2.2.2.1
      refine (arcsFrom_any N v A n c L HN.out _ hm hc (sorted_of_ok HO.out) (fun a ha => (arcsIn_of_ok HO.out a ha).2.2.1) (by omega) (by omega) I1.out.arcs).mono ?_
      rintro e w2 ⟨A', c', rfl, hc', ha', hbk, hb2⟩
      have HA := Lib.hid ha'
      have BK := Lib.hid hbk
      have s12 := hb2.size
      have T2 := Lib.hid (T1.out.bl hb2)
      have B2 := Lib.hid (B1.out.bl hb2)
      have I2 := Lib.hid (I1.out.turn (Turn.of_bl (S := fun i => i = rb) hb2))
      obtain ⟨M, hM⟩ : ∃ M, M = fromL (v : Int) L := ⟨_, rfl⟩
      rw [← hM] at hc' HA ⊢
      have HMM := Lib.hid hM
      obtain ⟨ml, hml⟩ : ∃ ml, ml = M.length := ⟨_, rfl⟩
      rw [← hml] at hc' ⊢
      have HML := Lib.hid hml
      have hml2 : ml ≤ 1048576 := by rw [hml, hM]; exact Nat.le_trans (List.length_filter_le _ _) (by rw [← HN.out]; exact hm)
      clear ha' hbk hb2 hM hml p0 p1 g0 g1 f0
      go_wp2_with fail
      go_loopw [16] (fun i wr => ∃ (j : Nat) (G : List Bool), j ≤ ml ∧ i = .int .i64 j ∧ BoolsAt wr rb G ∧ Hid (Grow L D (F.set v true) G) ∧ Hid (∀ t (h : t < M.length), t < j → bT G M[t].2.1 = true) ∧ Turn (fun i => i = rb) w2 wr) (fun i _ => ml - (intOf i).toNat)
      case atStart => exact ⟨0, F.set v true, by omega, rfl, B2.out, Lib.hid (Grow.refl _ _ _), Lib.hid (fun t h h' => absurd h' (by omega)), Turn.refl _ _⟩
      case round =>
        obtain ⟨j, G, hj, rfl, hBj, GR, DN, hT⟩ := hrel
        have BJ := Lib.hid hBj
        have TJ := Lib.hid hT
        have IJ := Lib.hid (I2.out.turn hT)
        have f0 := IJ.out.f0
        have hfb := World.block_lt_of_cell? _ _ f0
        simp only at hfb
        have sj := hT.size
        clear hBj hT
        by_cases hlt2 : j < ml
        · have hjl : j < M.length := by have := HML.out; omega
          obtain ⟨g1, o1, rfl, hg1, hc1⟩ := HA.out (by omega)
          obtain ⟨p1, p2, p3⟩ := hc1 j hjl
          have hgr : ¬ g1 = rb := fun e => by
            have h := I2.out.ne.2.2 (by
              have h9 : 0 < (fromL (v : Int) L).length := by rw [← HMM.out]; omega
              have := List.length_filter_le (fun a : Arc3 => a.1 == (v : Int)) L
              unfold fromL at h9
              omega)
            exact h (BK.out.symm.trans (by rw [← e]; rfl))
          rw [← TJ.out.cell (Nat.lt_of_lt_of_le hg1 s12) hgr] at p1 p2 p3
          have hmem : M[j] ∈ fromL (v : Int) L := by rw [← HMM.out]; exact List.getElem_mem _
          have hmL := List.mem_filter.1 hmem
          have hin := arcsIn_of_ok HO.out M[j] hmL.1
          have hsrc : M[j].1 = (v : Int) := by simpa using hmL.2
          have hdst := (HD.out.arc M[j] hmL.1 (by rw [hsrc]; exact hd)).1
          have DST := Lib.hid hdst
          generalize hx : M[j].1 = x at p1
          generalize hz : M[j].2.2 = z at p3
          obtain ⟨y, hy⟩ : ∃ y : Nat, M[j].2.1 = (y : Int) := ⟨M[j].2.1.toNat, by omega⟩
          have HY := Lib.hid hy
          rw [hy] at p2
          have hyN : (y : Int) < N := by omega
          have hyD : 0 ≤ dAt D (y : Int) := by rw [← hy]; exact hdst
          have hfl : falses G < m := by
            have h1 := falses_mono GR.out.mono
            have h2 := FS.out
            omega
          have i0 : (0 : Int) ≤ (j : Int) := by omega
          have i1 : (j : Int) < (ml : Int) := by omega
          clear hmem hmL hin hsrc hdst hx hz hy hc1
          go_wp2_with fail
          refine (IH.out G y _ hfl hyN hyD (BJ.out.bl (Bl.alloc_ (Bl.refl _) _)) (IJ.out.turn (Turn.of_bl (Bl.alloc_ (Bl.refl _) _)))).mono ?_
          rintro e w4 ⟨rfl, G', hB', hG', ht', hT'⟩
          have BP := Lib.hid hB'
          have GP := Lib.hid hG'
          have TP := Lib.hid (TJ.out.trans ((Turn.of_bl (S := fun i => i = rb) (Bl.alloc_ (Bl.refl _) _)).trans hT' (fun _ _ h => h)) (fun _ _ h => h))
          have TT := Lib.hid ht'
          clear hB' hG' hT' ht' p1 p2 p3 f0
          go_wp2
          go_roundw
          case rel =>
            refine ⟨j + 1, G', by omega, by go_num, BP.out, Lib.hid (Grow.trans (arcsIn_of_ok HO.out) GR.out GP.out), Lib.hid (fun t h ht => ?_), TP.out⟩
            rcases Nat.lt_or_ge t j with h' | h'
            · have hin : 0 ≤ M[t].2.1 := (arcsIn_of_ok HO.out M[t] (List.mem_filter.1 (by rw [← show M = L.filter _ from HMM.out]; exact List.getElem_mem _)).1).2.2.1
              exact GP.out.mono _ hin (DN.out t h h')
            · obtain rfl : t = j := by omega
              rw [HY.out]
              exact TT.out
          case measure => simp [intOf]; omega
        · go_wp2
          go_end0
          have hall : ∀ a ∈ L, a.1 = (v : Int) → bT G a.2.1 = true := fun a ha e => by
            have hmem : a ∈ M := by rw [HMM.out]; exact List.mem_filter.2 ⟨ha, by simpa using e⟩
            obtain ⟨t, ht, rfl⟩ := List.mem_iff_getElem.1 hmem
            exact DN.out t ht (by have := HML.out; omega)
          obtain ⟨k1, k2⟩ := Grow.node (arcsIn_of_ok HO.out) BB.out.len hv24 hd GR.out hall
          exact ⟨rfl, G, BJ.out, k1, k2, T2.out.trans TJ.out (fun _ _ h => h)⟩

end Go.Proofs.Ytffjpfanmnkmgaa

set_option linter.unusedSimpArgs false
set_option linter.unusedVariables false
namespace Go.Proofs.Ytffjpfanmnkmgaa
open Go.RowKit

def csB (F : List Bool) : List Value := F.map .bool
theorem csB_len (F : List Bool) : (csB F).length = F.length := by simp [csB]
theorem csB_one (F : List Bool) : (csB F).toArray.all (·.oneCell') = true := by
  refine Array.all_eq_true_iff_forall_mem.2 fun v hv => ?_
  simp [csB] at hv
  rcases hv with ⟨_, rfl⟩ | ⟨_, rfl⟩ <;> rfl
theorem BoolsAt.range {w : World} {b : Nat} {F : List Bool} (h : BoolsAt w b F) : w.rangeAt b 0 (csB F) := fun j v hv => by
  obtain ⟨hj, rfl⟩ := List.getElem?_eq_some_iff.1 hv
  rw [csB_len] at hj
  rw [Nat.zero_add, h.cell j hj]
  simp [csB]
theorem BoolsAt.there_ {w : World} {b : Nat} {F : List Bool} (h : BoolsAt w b F) : w.there b 0 24 := fun j hj => by
  rw [Nat.zero_add]
  exact ⟨by rw [h.cell j (by rw [h.len]; exact hj)]; rfl, h.free j hj⟩
theorem bools_new (w : World) : BoolsAt (w.alloc (.cells #[.bool false, .bool false, .bool false, .bool false, .bool false, .bool false, .bool false, .bool false, .bool false, .bool false, .bool false, .bool false, .bool false, .bool false, .bool false, .bool false, .bool false, .bool false, .bool false, .bool false, .bool false, .bool false, .bool false, .bool false] 111)) w.heap.size (List.replicate 24 false) := by
  refine ⟨by simp, by simp, fun i hi => ?_, fun i hi => ?_⟩
  · rw [List.length_replicate] at hi
    rw [List.getElem_replicate]
    match i, hi with
    | 0, _ | 1, _ | 2, _ | 3, _ | 4, _ | 5, _ | 6, _ | 7, _ | 8, _ | 9, _ | 10, _ | 11, _ | 12, _ | 13, _ | 14, _ | 15, _ | 16, _ | 17, _ | 18, _ | 19, _ | 20, _ | 21, _ | 22, _ | 23, _ => simp [go_sem]
    | (k + 24), h => exact absurd h (by omega)
  · simp [go_sem]
theorem BoolsAt.stored {w : World} {b : Nat} {F G : List Bool} (h : BoolsAt w b F) (hG : G.length = 24) : BoolsAt (w.setCells b 0 (csB G)) b G := by
  refine ⟨hG, by rw [setCells_size]; exact h.lt, fun i hi => ?_, fun i hi => ?_⟩
  · have := World.rangeAt_setCells_same w b 0 (csB G) (by rw [csB_len, hG]; exact h.there_) i (.bool G[i]) (by simp [csB, hi])
    simpa using this
  · rw [World.frozen?_setCells]
    exact h.free i hi
theorem size24b : (Try.prog.info? 111).map (·.size) = some 24 := by kernel_rfl

set_option maxRecDepth 100000 in
set_option maxHeartbeats 8000000 in
theorem reachedFrom_any (N s : Int) (A : Option Addr) (n c : Nat) (L : List Arc3) (hn : n = L.length) (hc : n ≤ c) (hm : n ≤ 1048576) (ho : okB N L = true) (h0 : 0 ≤ s) (h1 : s < N) (w : World) (H1 : ArcsAt w w.heap.size A L) :
    Calls Try.prog 86 #[.agg #[.int .i64 N, .slice A n c], .int .i64 s] w fun e w' => ∃ F : List Bool, e = .returned (.agg (csB F).toArray) ∧ F.length = 24 ∧ (∀ u : Int, 0 ≤ u → (bT F u = true ↔ 0 ≤ dAt (distL N L s) u)) ∧ Bl w w' := by
  have K1 := Lib.hid H1
  have HN := Lib.hid hn
  have HO := Lib.hid ho
  have hN24 := (okB_elim ho).2.1
  clear H1 hn ho
  obtain ⟨v, rfl⟩ : ∃ v : Nat, s = v := ⟨s.toNat, by omega⟩
  have hd0 : 0 ≤ dAt (distL N L (v : Int)) (v : Int) := by
    have := (distL_is (s := (v : Int)) (arcsIn_of_ok HO.out) hN24 h0 h1).start
    omega
  go_enter Try.func86, Try.ntmps86
  have HX1 := Lib.hid (show BoolsAt ((w.alloc (.cells #[.int .i64 N, .slice A n c] 38)).alloc (.cells #[.bool false, .bool false, .bool false, .bool false, .bool false, .bool false, .bool false, .bool false, .bool false, .bool false, .bool false, .bool false, .bool false, .bool false, .bool false, .bool false, .bool false, .bool false, .bool false, .bool false, .bool false, .bool false, .bool false, .bool false] 111)) (w.heap.size + 1) (List.replicate 24 false) from by simpa using bools_new (w.alloc (.cells #[.int .i64 N, .slice A n c] 38)))
  have HX2 := Lib.hid (show BoolsAt (((w.alloc (.cells #[.int .i64 N, .slice A n c] 38)).alloc (.cells #[.bool false, .bool false, .bool false, .bool false, .bool false, .bool false, .bool false, .bool false, .bool false, .bool false, .bool false, .bool false, .bool false, .bool false, .bool false, .bool false, .bool false, .bool false, .bool false, .bool false, .bool false, .bool false, .bool false, .bool false] 111)).alloc (.cells #[.bool false, .bool false, .bool false, .bool false, .bool false, .bool false, .bool false, .bool false, .bool false, .bool false, .bool false, .bool false, .bool false, .bool false, .bool false, .bool false, .bool false, .bool false, .bool false, .bool false, .bool false, .bool false, .bool false, .bool false] 111)) (w.heap.size + 1 + 1) (List.replicate 24 false) from by simpa using bools_new ((w.alloc (.cells #[.int .i64 N, .slice A n c] 38)).alloc (.cells #[.bool false, .bool false, .bool false, .bool false, .bool false, .bool false, .bool false, .bool false, .bool false, .bool false, .bool false, .bool false, .bool false, .bool false, .bool false, .bool false, .bool false, .bool false, .bool false, .bool false, .bool false, .bool false, .bool false, .bool false] 111)))
  have BW := Lib.hid (show Bl w (((w.alloc (.cells #[.int .i64 N, .slice A n c] 38)).alloc (.cells #[.bool false, .bool false, .bool false, .bool false, .bool false, .bool false, .bool false, .bool false, .bool false, .bool false, .bool false, .bool false, .bool false, .bool false, .bool false, .bool false, .bool false, .bool false, .bool false, .bool false, .bool false, .bool false, .bool false, .bool false] 111)).alloc (.cells #[.bool false, .bool false, .bool false, .bool false, .bool false, .bool false, .bool false, .bool false, .bool false, .bool false, .bool false, .bool false, .bool false, .bool false, .bool false, .bool false, .bool false, .bool false, .bool false, .bool false, .bool false, .bool false, .bool false, .bool false] 111)) from Bl.alloc_ (Bl.alloc_ (Bl.alloc_ (Bl.refl w) _) _) _)
  have HXB := Lib.hid (show ∀ o, Bl ((w.alloc (.cells #[.int .i64 N, .slice A n c] 38)).alloc (.cells #[.bool false, .bool false, .bool false, .bool false, .bool false, .bool false, .bool false, .bool false, .bool false, .bool false, .bool false, .bool false, .bool false, .bool false, .bool false, .bool false, .bool false, .bool false, .bool false, .bool false, .bool false, .bool false, .bool false, .bool false] 111)) ((((w.alloc (.cells #[.int .i64 N, .slice A n c] 38)).alloc (.cells #[.bool false, .bool false, .bool false, .bool false, .bool false, .bool false, .bool false, .bool false, .bool false, .bool false, .bool false, .bool false, .bool false, .bool false, .bool false, .bool false, .bool false, .bool false, .bool false, .bool false, .bool false, .bool false, .bool false, .bool false] 111)).alloc (.cells #[.bool false, .bool false, .bool false, .bool false, .bool false, .bool false, .bool false, .bool false, .bool false, .bool false, .bool false, .bool false, .bool false, .bool false, .bool false, .bool false, .bool false, .bool false, .bool false, .bool false, .bool false, .bool false, .bool false, .bool false] 111)).alloc o) from fun o => Bl.alloc_ (Bl.alloc_ (Bl.refl _) _) _)
  go_wp2_with fail
  obtain ⟨X, hX⟩ : ∃ X, X = (((w.alloc (.cells #[.int .i64 N, .slice A n c] 38)).alloc (.cells #[.bool false, .bool false, .bool false, .bool false, .bool false, .bool false, .bool false, .bool false, .bool false, .bool false, .bool false, .bool false, .bool false, .bool false, .bool false, .bool false, .bool false, .bool false, .bool false, .bool false, .bool false, .bool false, .bool false, .bool false] 111)).alloc (.cells #[.bool false, .bool false, .bool false, .bool false, .bool false, .bool false, .bool false, .bool false, .bool false, .bool false, .bool false, .bool false, .bool false, .bool false, .bool false, .bool false, .bool false, .bool false, .bool false, .bool false, .bool false, .bool false, .bool false, .bool false] 111)).alloc (.cells #[.func (.func 123) #[] #[.pointer (some ⟨w.heap.size + 1 + 1, 0, none⟩), .pointer (some ⟨w.heap.size, 0, none⟩), .pointer (some ⟨w.heap.size + 1 + 1 + 1, 0, none⟩)]] 154) := ⟨_, rfl⟩
  rw [← hX]
  have Y1 := Lib.hid (show BoolsAt X (w.heap.size + 1) (List.replicate 24 false) from by rw [hX]; exact HX1.out.bl (HXB.out _))
  have Y2 := Lib.hid (show BoolsAt X (w.heap.size + 1 + 1) (List.replicate 24 false) from by rw [hX]; exact HX2.out.bl (Bl.alloc_ (Bl.refl _) _))
  have BX := Lib.hid (show Bl w X from by rw [hX]; exact Bl.alloc_ BW.out _)
  have HR := Lib.hid (show RIn X (w.heap.size + 1 + 1) w.heap.size (w.heap.size + 1 + 1 + 1) N A n c L from by
    refine ⟨?_, ?_, ?_, K1.out.bl BX.out, by omega, by omega, fun h0 e => ?_⟩
    · rw [hX]; simp [go_sem]
    · rw [hX]; simp [go_sem]
    · rw [hX]; simp [go_sem]
    · obtain ⟨g, off, rfl, hg, -⟩ := K1.out h0
      simp [blockOf] at e
      omega)
  clear hX HX1 HX2 HXB
  refine (goTo_any N v A n c L HN.out hc hm HO.out h0 h1 (w.heap.size + 1 + 1) w.heap.size (w.heap.size + 1 + 1 + 1) _ _ v X (Nat.lt_succ_self _) h1 hd0 Y2.out HR.out).mono ?_
  rintro e w1 ⟨rfl, F, hB, hG, ht, hT⟩
  have FB := Lib.hid hB
  have FL := Lib.hid hB.len
  have FE := Lib.hid (fun u hu => grow_all (arcsIn_of_ok HO.out) hN24 h0 h1 hG ht u hu)
  have R1 := Lib.hid (Y1.out.turn hT (by omega))
  have B1 := Lib.hid (show Bl w w1 from Turn.to_bl BX.out hT (fun i hi => by rw [hi]; omega))
  clear hB hG ht hT
  go_wp2_with (first | (refine wpList_load_mid rfl 111 (.tmp 5) rfl (w.heap.size + 1 + 1) 0 rfl (csB F) _ FB.out.range Try.underlying111 rfl (by rw [csB_len, FL.out]; exact size24b) ?_) | (refine wpList_store_mid rfl 111 (.tmp 4) (.tmp 11) rfl (w.heap.size + 1) 0 (csB F).toArray rfl rfl ?c1 ?c2 (csB_one _) ?_))
  case c1 => simpa [csB_len, FL.out] using R1.out.there_
  case c2 => simpa [csB_len, FL.out] using size24b
  have hov := R1.out.stored FL.out
  refine ⟨rfl, _, results_cell_mid rfl _ _ (w.heap.size + 1) (csB F) _ rfl hov.range Try.underlying111 rfl (by rw [csB_len, FL.out]; exact size24b), ?_⟩
  exact ⟨F, rfl, FL.out, FE.out, Bl.setCells_ _ (by omega) _ _ _ B1.out⟩

theorem index24b (F : List Bool) (hE : F.length = 24) (u : Nat) (hu : u < 24) (w : World) : (Instr.index 111 (.agg (csB F).toArray) (.int .i64 (u : Int))).run Try.prog w = .ok (.bool (bT F (u : Int))) w := by
  have h1 : (0 : Int) ≤ (u : Int) ∧ (u : Int) < 24 := by omega
  have hz : (Go.sizeOf 4).run Try.prog w = .ok 1 w := by kernel_rfl
  have ha : (Go.isAgg 4).run Try.prog w = .ok false w := by kernel_rfl
  unfold Instr.index csB
  simp [Sem.run_bind, asIntOf, run_underlying Try.underlying111, Result.andThen, h1, hz, ha, part, bT, hE, hu]

/-- The nodes that are reached from s, rising. -/
def seenFL (N : Int) (L : List Arc3) (s : Int) : List Int := if has1 N L s = true then seenL (distL N L s) N.toNat else []
theorem seenFL_len (N : Int) (L : List Arc3) (s : Int) : (seenFL N L s).length ≤ 1048576 := by
  unfold seenFL
  split
  · obtain ⟨ho, h0, h1⟩ := has1_of ‹_›
    have := (okB_elim ho).2.1
    have := seenL_len (distL N L s) N.toNat
    omega
  · simp

set_option maxRecDepth 100000 in
set_option maxHeartbeats 4000000 in
theorem implReachedFrom_any (N s : Int) (A : Option Addr) (n c : Nat) (L : List Arc3) (hn : n = L.length) (hc : n ≤ c) (w : World) (hm : n ≤ 1048576) (H1 : ArcsAt w w.heap.size A L) :
    Calls Try.prog 38 #[.agg #[.int .i64 N, .slice A n c], .int .i64 s] w (NumsMade (seenFL N L s) w) := by
  obtain ⟨i0, hi, hz0, hz1, hz2⟩ := info_parts infoInt
  have I0 := Lib.hid hi
  have I1 := Lib.hid hz0
  have I2 := Lib.hid hz1
  have I3 := Lib.hid hz2
  have K1 := Lib.hid H1
  have HN := Lib.hid hn
  clear H1 hn hi hz0 hz1 hz2
  cases hh : has1 N L s with
  | false =>
    have HH := Lib.hid hh
    clear hh
    go_enter Try.func38, Try.ntmps38
    go_wp2_with fail
    refine (hasNodes_1 N s A n c L HN.out (w.heap.size + 1) 1 _ (by omega) (K1.out.bl (by repeat' (first | exact Bl.refl _ | with_reducible assumption | with_reducible refine Bl.drew_ ?_ | with_reducible refine Bl.drewN_ ?_ _ | with_reducible refine Bl.alloc_ ?_ _ | with_reducible refine Bl.trans_ ?_ (by assumption) | with_reducible refine Bl.trans_ ?_ (And.left (by assumption))))) (by simp) (by simp [go_sem])).mono ?_
    rintro e w1 ⟨rfl, hb1⟩
    rw [HH.out]
    go_wp2
    go_ret
    exact ⟨_, rfl, by unfold seenFL; rw [if_neg (by rw [HH.out]; simp)]; exact OwnN.nil_ _ _, (by repeat' (first | exact Bl.refl _ | with_reducible assumption | with_reducible refine Bl.drew_ ?_ | with_reducible refine Bl.drewN_ ?_ _ | with_reducible refine Bl.alloc_ ?_ _ | with_reducible refine Bl.trans_ ?_ (by assumption) | with_reducible refine Bl.trans_ ?_ (And.left (by assumption))))⟩
  | true =>
    have HH := Lib.hid hh
    obtain ⟨ho, hs0, hs1⟩ := has1_of hh
    have hN24 := (okB_elim ho).2.1
    have HO := Lib.hid ho
    clear hh ho
    go_enter Try.func38, Try.ntmps38
    go_wp2_with fail
    refine (hasNodes_1 N s A n c L HN.out (w.heap.size + 1) 1 _ (by omega) (K1.out.bl (by repeat' (first | exact Bl.refl _ | with_reducible assumption | with_reducible refine Bl.drew_ ?_ | with_reducible refine Bl.drewN_ ?_ _ | with_reducible refine Bl.alloc_ ?_ _ | with_reducible refine Bl.trans_ ?_ (by assumption) | with_reducible refine Bl.trans_ ?_ (And.left (by assumption))))) (by simp) (by simp [go_sem])).mono ?_
    rintro e w1 ⟨rfl, hb1⟩
    rw [HH.out]
    have hx := (bcell hb1).1
    have q0 : w1.cell? ⟨w.heap.size, 0, none⟩ = some (.int .i64 N) := (hx _ _ (by simp; omega)).trans (by simp [go_sem])
    have q1 : w1.cell? ⟨w.heap.size, 1, none⟩ = some (.slice A n c) := (hx _ _ (by simp; omega)).trans (by simp [go_sem])
    have hbw : Bl w w1 := (((Bl.refl w).alloc_ _).alloc_ _).trans_ hb1
    clear hx hb1
    go_wp2_with fail
    refine (reachedFrom_any N s A n c L HN.out hc hm HO.out hs0 hs1 _ (K1.out.bl hbw)).mono ?_
    rintro e w2 ⟨F, rfl, hF, hFd, hb2⟩
    have FL := Lib.hid hF
    have FE := Lib.hid hFd
    have B2 := Lib.hid (hbw.trans_ hb2)
    have DL := Lib.hid (distL_len HO.out hs0 hs1)
    clear hF hFd hb2 hbw q0 q1
    obtain ⟨D, hD⟩ : ∃ D, D = distL N L s := ⟨_, rfl⟩
    have HDD := Lib.hid hD
    rw [← hD] at FE DL
    clear hD
    go_wp2_with fail
    go_loopw [5, 16] (fun v i wr => ∃ k : Nat, k ≤ 24 ∧ i = .int .i64 k ∧ OwnN wr w2.heap.size v (seenL D k) ∧ Bl w2 wr) (fun _ i _ => 24 - (intOf i).toNat)
    case atStart => exact ⟨0, by omega, rfl, OwnN.nil_ _ _, Bl.refl _⟩
    case round =>
      obtain ⟨k, hk, rfl, hO, hbl⟩ := hrel
      have OO := Lib.hid hO
      have BB := Lib.hid hbl
      have s0 := B2.out.size
      have s1 := hbl.size
      clear hO hbl
      by_cases hlt : k < 24
      · have hix := index24b F FL.out k hlt wr
        have EK := Lib.hid (FE.out (k : Int) (by omega))
        by_cases hd : 0 ≤ dAt D (k : Int)
        · have hbt := EK.out.2 hd
          have RY := Lib.hid (seenL_yes hd)
          rw [hbt] at hix
          obtain ⟨m, hm9⟩ : ∃ m, m = (seenL D k).length := ⟨_, rfl⟩
          have HM := Lib.hid hm9
          have hmk : m ≤ 24 := by rw [hm9]; exact Nat.le_trans (seenL_len D k) hk
          have OW := Lib.hid (show wr.ownsRow w2.heap.size 2 1 u5 m (csI (seenL D k)) from by rw [hm9]; exact OO.out)
          clear hm9 hbt
          go_wp2_with (at_builtin; refine wpList_append_any _ rfl (.tmp 21) (.tmp 23) _ rfl w2.heap.size 2 i0 _ 1 8 Try.underlying22 I0.out I1.out I2.out I3.out rfl (by decide) _ m (csI (seenL D k)) rfl (World.ownsRow.alloc OW.out _) (wr.heap.size + 1) (some ⟨wr.heap.size, 0, none⟩) 1 1 [.int .i64 (k : Int)] rfl ?c0 (by simp [Value.oneCell']) ?c3 ?c4 ?c5 ?_)
          case c0 =>
            refine ⟨rfl, fun _ => ⟨_, rfl, by show wr.heap.size < wr.heap.size + 1; omega, fun x u hj => ?_⟩⟩
            match x, hj with
            | 0, hj => simp at hj; subst hj; simp [Addr.add, go_sem]
            | (x + 1), hj => simp at hj
          case c3 => unfold maxLen; omega
          case c4 => omega
          case c5 => first | omega | (simp; omega)
          intro v' w8 hown' hgrow hwh
          have O8 := Lib.hid (OwnN.snoc (V := seenL D k) (x := (k : Int)) (n := m) HM.out hown')
          rw [← RY.out] at O8
          have hol := fun g h => (Owns.lt OO.out g h).1
          have B8 := Lib.hid (show Bl w2 w8 from (BB.out.alloc_ _).grown_ hgrow (fun g hg => hol g hg))
          clear hown' hgrow hwh hix
          go_wp2
          go_roundw
          case rel => exact ⟨k + 1, by omega, by go_num, O8.out, B8.out⟩
          case measure => simp [intOf]; omega
        · have hbt : bT F (k : Int) = false := by
            cases hb : bT F (k : Int) with
            | true => exact absurd (EK.out.1 hb) hd
            | false => rfl
          have RN := Lib.hid (seenL_no hd)
          rw [hbt] at hix
          go_wp2
          go_roundw
          case rel => exact ⟨k + 1, by omega, by go_num, by rw [RN.out]; exact OO.out, BB.out⟩
          case measure => simp [intOf]; omega
      · obtain rfl : k = 24 := by omega
        have HF := Lib.hid (show seenL D 24 = seenFL N L s from by
          unfold seenFL
          rw [if_pos HH.out, ← HDD.out]
          exact seenL_out DL.out (by omega))
        go_wp2
        go_ret
        exact ⟨_, rfl, by rw [← HF.out]; exact OO.out.low s0, B2.out.trans_ BB.out⟩

end Go.Proofs.Ytffjpfanmnkmgaa
