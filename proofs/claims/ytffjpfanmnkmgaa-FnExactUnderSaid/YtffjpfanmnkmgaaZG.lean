/-
  What is proved here: plain facts on how many nodes are reached from one, and how far the farthest of these is; plain facts on a search that marks each node once; plain facts on the center, and on what is reached in a graph that is turned; plain facts on parts: of each node the least of those that it reaches and that reach it; the code's search that marks each node that is reached; ReachedFrom of the code and of the model; ReachedFrom of the model; spec.Reversed turns the arcs of a right graph and puts them in order, as the model does; plain facts on lists without two alike, on the nearest of some nodes, and on the first of the greatest; the small functions of the code and of the model that ask whether numbers are nodes, no two alike. No conditions beyond those that each theorem states.
-/
import Derived.Test.YtffjpfanmnkmgaaZN
import Derived.Test.YtffjpfanmnkmgaaZP
import Derived.Test.YtffjpfanmnkmgaaX1
import Derived.Deep.MidRow
import Derived.Test.YtffjpfanmnkmgaaZS
set_option linter.unusedSimpArgs false
set_option linter.unusedVariables false
namespace Go.Proofs.Ytffjpfanmnkmgaa


/-- How many are reached, and how far the farthest one is. -/
def cntD (D : List Int) : Nat := (D.filter fun d => decide (0 ≤ d)).length
def maxD (D : List Int) : Int := D.foldl max 0
theorem cntD_nil : cntD [] = 0 := rfl
theorem maxD_nil : maxD [] = 0 := rfl
theorem take_snocD {D : List Int} {j : Nat} (h : j < D.length) : D.take (j + 1) = D.take j ++ [D[j]] := by
  rw [List.take_add_one, List.getElem?_eq_getElem h]; rfl
theorem cntD_yes {D : List Int} {j : Nat} (h : j < D.length) (h0 : 0 ≤ D[j]) : cntD (D.take (j + 1)) = cntD (D.take j) + 1 := by
  unfold cntD
  rw [take_snocD h, List.filter_append, List.length_append]
  simp [h0]
theorem cntD_no {D : List Int} {j : Nat} (h : j < D.length) (h0 : ¬ 0 ≤ D[j]) : cntD (D.take (j + 1)) = cntD (D.take j) := by
  unfold cntD
  rw [take_snocD h, List.filter_append, List.length_append]
  simp [h0]
theorem cntD_le (D : List Int) : cntD D ≤ D.length := List.length_filter_le _ _
theorem maxD_step {D : List Int} {j : Nat} (h : j < D.length) : maxD (D.take (j + 1)) = max (maxD (D.take j)) D[j] := by
  unfold maxD
  rw [take_snocD h, List.foldl_append]
  rfl
theorem foldl_max_le {b : Int} : ∀ {D : List Int} {m : Int}, m ≤ b → (∀ d ∈ D, d ≤ b) → D.foldl max m ≤ b
  | [], _, h, _ => h
  | d :: D, m, h, k => foldl_max_le (D := D) (by have := k d (by simp); omega) (fun x hx => k x (by simp [hx]))
theorem le_foldl_max : ∀ {D : List Int} {m : Int}, m ≤ D.foldl max m ∧ ∀ d ∈ D, d ≤ D.foldl max m
  | [], m => ⟨by simp, by simp⟩
  | x :: D, m => by
    obtain ⟨h1, h2⟩ := le_foldl_max (D := D) (m := max m x)
    refine ⟨by rw [List.foldl_cons]; omega, fun d hd => ?_⟩
    rw [List.foldl_cons]
    rcases List.mem_cons.1 hd with rfl | hd
    · omega
    · exact h2 d hd
theorem maxD_bounds {D : List Int} (h : ∀ d ∈ D, d ≤ 24000) : 0 ≤ maxD D ∧ maxD D ≤ 24000 := ⟨le_foldl_max.1, foldl_max_le (by omega) h⟩

/-- The key of the last one that is told. -/
def lastK (Y : List It) : Int := match Y.getLast? with | some y => y.1 | none => 0
theorem lastK_nil : lastK [] = 0 := rfl
theorem lastK_snoc (Y : List It) (x : It) : lastK (Y ++ [x]) = x.1 := by simp [lastK]

theorem AllNear.dlen {N s : Int} {L : List (Int × Int × Int)} {Y : List It} (hL : ArcsIn N L) (hN : N ≤ 24) (h : AllNear N L s Y) : (distL N L s).length = N.toNat := by
  rw [← h.keys hL hN, keysL_len]
theorem dAt_el {D : List Int} {k : Nat} (h : k < D.length) : dAt D (k : Int) = D[k] := by simp [dAt, h]

theorem AllNear.count {N s : Int} {L : List (Int × Int × Int)} {Y : List It} (hL : ArcsIn N L) (hN : N ≤ 24) (h : AllNear N L s Y) : Y.length = cntD (distL N L s) := by
  have hm := fun k v => h.mem hL hN k v
  have hl := h.dlen hL hN
  have e1 : distL N L s = (List.range (distL N L s).length).map fun (i : Nat) => dAt (distL N L s) (i : Int) := by
    refine List.ext_getElem (by simp) fun i h1 h2 => ?_
    simp [dAt_el h1]
  have e2 : cntD (distL N L s) = ((List.range (distL N L s).length).filter fun i => decide (0 ≤ dAt (distL N L s) ((i : Nat) : Int))).length := by
    unfold cntD
    conv => lhs; rw [e1]
    rw [List.filter_map, List.length_map]
    rfl
  have hp : (Y.map fun y => y.2.toNat).Perm ((List.range (distL N L s).length).filter fun i => decide (0 ≤ dAt (distL N L s) ((i : Nat) : Int))) := by
    refine (List.perm_ext_iff_of_nodup ?_ ?_).2 fun a => ?_
    · have hi := h.ids
      rw [List.Nodup, List.pairwise_map] at hi ⊢
      refine hi.imp_of_mem fun {a b} ha hb hab e => hab ?_
      have h1 := ((hm a.1 a.2).1 ha).1
      have h2 := ((hm b.1 b.2).1 hb).1
      omega
    · exact List.Pairwise.filter _ List.nodup_range
    · rw [List.mem_map, List.mem_filter, List.mem_range, decide_eq_true_eq]
      constructor
      · rintro ⟨y, hy, rfl⟩
        have h1 := (hm y.1 y.2).1 hy
        have e : ((y.2.toNat : Nat) : Int) = y.2 := by omega
        rw [e]
        exact ⟨by omega, by omega⟩
      · rintro ⟨h1, h2⟩
        exact ⟨(dAt (distL N L s) (a : Int), (a : Int)), (hm _ _).2 ⟨by omega, h2, rfl⟩, by simp⟩
  rw [e2, ← hp.length_eq, List.length_map]

theorem AllNear.last {N s : Int} {L : List (Int × Int × Int)} {Y : List It} (hL : ArcsIn N L) (hN : N ≤ 24) (h : AllNear N L s Y) : lastK Y = maxD (distL N L s) := by
  have hm := fun k v => h.mem hL hN k v
  have hl := h.dlen hL hN
  obtain ⟨z, hz, -, -⟩ := h.start
  obtain ⟨Y', x, rfl⟩ : ∃ Y' x, Y = Y' ++ [x] := ⟨Y.dropLast, Y.getLast (List.ne_nil_of_mem hz), (List.dropLast_concat_getLast _).symm⟩
  rw [lastK_snoc]
  have h1 := (hm x.1 x.2).1 (by simp)
  have hs : ∀ y ∈ Y' ++ [x], y.1 ≤ x.1 := fun y hy => by
    rcases List.mem_append.1 hy with hy | hy
    · exact lessI_key' ((List.pairwise_append.1 h.sorted).2.2 y hy x (by simp))
    · obtain rfl : y = x := by simpa using hy
      exact Int.le_refl _
  have ub : ∀ d ∈ distL N L s, d ≤ x.1 := fun d hd => by
    by_cases h0 : 0 ≤ d
    · obtain ⟨i, hi, rfl⟩ := List.mem_iff_getElem.1 hd
      have := hs ((distL N L s)[i], (i : Int)) ((hm _ _).2 ⟨by omega, h0, (dAt_el hi).symm⟩)
      exact this
    · omega
  have hx : x.1 ∈ distL N L s := by
    have e : x.2 = ((x.2.toNat : Nat) : Int) := by omega
    rw [h1.2.2, e, dAt_el (by omega)]
    exact List.getElem_mem _
  have h2 := le_foldl_max (D := distL N L s) (m := 0)
  have h3 := h2.2 _ hx
  have h4 := foldl_max_le (D := distL N L s) (m := 0) (b := x.1) (by omega) ub
  unfold maxD
  omega

/-- More nodes, or as many and all of them nearer. -/
def betterB (a b : Int × Int) : Bool := decide (b.1 < a.1 ∨ a.1 = b.1 ∧ a.2 < b.2)
/-- The first of the best ones of the first k. -/
def topB (f : Nat → Int × Int) : Nat → Nat
  | 0 => 0
  | k + 1 => if betterB (f k) (f (topB f k)) = true then k else topB f k
theorem topB_yes {f : Nat → Int × Int} {k : Nat} (h : betterB (f k) (f (topB f k)) = true) : topB f (k + 1) = k := if_pos h
theorem topB_no {f : Nat → Int × Int} {k : Nat} (h : betterB (f k) (f (topB f k)) = false) : topB f (k + 1) = topB f k := if_neg (by rw [h]; simp)
theorem topB_one (f : Nat → Int × Int) : topB f 1 = 0 := by
  unfold topB
  split <;> rfl
theorem topB_lt (f : Nat → Int × Int) : ∀ k, 0 < k → topB f k < k
  | k + 1, _ => by
    unfold topB
    split
    · omega
    · rcases Nat.eq_zero_or_pos k with rfl | h
      · simp [topB]
      · have := topB_lt f k h
        omega
/-- The best one so far, with none at first. -/
def bestA (f : Nat → Int × Int) (j : Nat) : Int × Int := if j = 0 then (0, 0) else f (topB f j)
theorem best_yes {f : Nat → Int × Int} {j : Nat} (h : betterB (f j) (bestA f j) = true) : topB f (j + 1) = j ∧ bestA f (j + 1) = f j := by
  unfold bestA at h ⊢
  rcases Nat.eq_zero_or_pos j with rfl | hj
  · rw [topB_one]
    exact ⟨rfl, by simp⟩
  · rw [if_neg (by omega)] at h
    rw [topB_yes h]
    exact ⟨rfl, by simp⟩
theorem best_no {f : Nat → Int × Int} {j : Nat} (h0 : 0 < (f 0).1) (h : betterB (f j) (bestA f j) = false) : topB f (j + 1) = topB f j ∧ bestA f (j + 1) = bestA f j := by
  unfold bestA at h ⊢
  rcases Nat.eq_zero_or_pos j with rfl | hj
  · exfalso
    simp [betterB] at h
    omega
  · rw [if_neg (by omega)] at h
    rw [topB_no h]
    exact ⟨rfl, by simp [show ¬ j = 0 by omega]⟩

/-- How many nodes are reached from one, and how far the farthest is. -/
def lookI (N : Int) (L : List (Int × Int × Int)) (k : Nat) : Int × Int := (((cntD (distL N L (k : Int)) : Nat) : Int), maxD (distL N L (k : Int)))

end Go.Proofs.Ytffjpfanmnkmgaa

set_option linter.unusedSimpArgs false
set_option linter.unusedVariables false
namespace Go.Proofs.Ytffjpfanmnkmgaa
open Go.RowKit

theorem countP_lt_ {α : Type} {p q : α → Bool} : ∀ {l : List α}, (∀ x ∈ l, p x = true → q x = true) → ∀ {x : α}, x ∈ l → q x = true → p x = false → l.countP p < l.countP q
  | [], _, x, hx, _, _ => by simp at hx
  | y :: l, h, x, hx, hq, hp => by
    have hle : l.countP p ≤ l.countP q := List.countP_mono_left fun z hz => h z (by simp [hz])
    rcases List.mem_cons.1 hx with rfl | hx
    · rw [List.countP_cons_of_neg (by simp [hp]), List.countP_cons_of_pos hq]
      omega
    · have ih := countP_lt_ (fun z hz => h z (by simp [hz])) hx hq hp
      by_cases hy : p y = true
      · rw [List.countP_cons_of_pos hy, List.countP_cons_of_pos (h y (by simp) hy)]
        omega
      · rw [List.countP_cons_of_neg hy]
        have := List.countP_cons (p := q) (l := l) (a := y)
        rw [this]
        split <;> omega

/-- Is the node marked? -/
def bT (F : List Bool) (u : Int) : Bool := F.getD u.toNat false
def falses (F : List Bool) : Nat := (List.range 24).countP fun i => !F.getD i false
theorem bT_set {F : List Bool} {v : Nat} (hv : v < F.length) {u : Int} (hu : 0 ≤ u) : bT (F.set v true) u = if u = (v : Int) then true else bT F u := by
  unfold bT
  rw [List.getD_eq_getElem?_getD, List.getD_eq_getElem?_getD, List.getElem?_set]
  by_cases e : u = (v : Int)
  · subst e
    simp [hv]
  · rw [if_neg (by omega), if_neg e]
/-- What a search makes of the marks, D being how far all are from the start. -/
structure Grow (L : List (Int × Int × Int)) (D : List Int) (F F' : List Bool) : Prop where
  mono : ∀ u, 0 ≤ u → bT F u = true → bT F' u = true
  sound : ∀ u, 0 ≤ u → bT F' u = true → bT F u = true ∨ 0 ≤ dAt D u
  shut : ∀ a ∈ L, bT F' a.1 = true → bT F a.1 = false → bT F' a.2.1 = true
theorem Grow.refl (L : List (Int × Int × Int)) (D : List Int) (F : List Bool) : Grow L D F F := ⟨fun _ _ h => h, fun _ _ h => .inl h, fun a _ h h' => by rw [h] at h'; cases h'⟩
theorem Grow.trans {N : Int} {L : List (Int × Int × Int)} {D : List Int} {F G H : List Bool} (hL : ArcsIn N L) (h : Grow L D F G) (k : Grow L D G H) : Grow L D F H := by
  refine ⟨fun u h0 hu => k.mono u h0 (h.mono u h0 hu), fun u h0 hu => ?_, fun a ha h1 h2 => ?_⟩
  · rcases k.sound u h0 hu with h1 | h1
    · exact h.sound u h0 h1
    · exact .inr h1
  · have hin := hL a ha
    cases hg : bT G a.1 with
    | true => exact k.mono _ hin.2.2.1 (h.shut a ha hg h2)
    | false => exact k.shut a ha h1 hg
theorem falses_mono {F G : List Bool} (h : ∀ u, 0 ≤ u → bT F u = true → bT G u = true) : falses G ≤ falses F :=
  List.countP_mono_left fun i hi hg => by
    have := h (i : Int) (by omega)
    simp only [bT, Int.toNat_natCast] at this
    cases hf : F.getD i false with
    | true => rw [this hf] at hg; cases hg
    | false => rfl
theorem falses_set {F : List Bool} {v : Nat} (hl : F.length = 24) (hv : v < 24) (hf : bT F v = false) : falses (F.set v true) < falses F := by
  refine countP_lt_ (x := v) (fun i hi hg => ?_) (by simpa using hv) ?_ ?_
  · have := bT_set (F := F) (v := v) (by omega) (u := (i : Int)) (by omega)
    simp only [bT, Int.toNat_natCast] at this
    rw [this] at hg
    split at hg
    · cases hg
    · exact hg
  · simp only [bT, Int.toNat_natCast] at hf
    rw [hf]; rfl
  · have := bT_set (F := F) (v := v) (by omega) (u := (v : Int)) (by omega)
    simp only [bT, Int.toNat_natCast] at this
    rw [this]
    simp
/-- A node is marked, then all to which its arcs lead are searched from. -/
theorem Grow.node {N : Int} {L : List (Int × Int × Int)} {D : List Int} {F F' : List Bool} {v : Nat} (hL : ArcsIn N L) (hl : F.length = 24) (hv : v < 24) (hr : 0 ≤ dAt D v) (h : Grow L D (F.set v true) F') (ha : ∀ a ∈ L, a.1 = (v : Int) → bT F' a.2.1 = true) : Grow L D F F' ∧ bT F' v = true := by
  have hs := fun u (h0 : 0 ≤ u) => bT_set (F := F) (v := v) (by omega) h0
  have hvt : bT F' v = true := h.mono _ (by omega) (by rw [hs _ (by omega), if_pos rfl])
  refine ⟨⟨fun u h0 hu => h.mono u h0 (by rw [hs u h0]; split <;> simp [hu]), fun u h0 hu => ?_, fun a hL' h1 h2 => ?_⟩, hvt⟩
  · rcases h.sound u h0 hu with h1 | h1
    · rw [hs u h0] at h1
      by_cases e : u = (v : Int)
      · rw [e]; exact .inr hr
      · rw [if_neg e] at h1
        exact .inl h1
    · exact .inr h1
  · by_cases e : a.1 = (v : Int)
    · exact ha a hL' e
    · refine h.shut a hL' h1 ?_
      rw [hs _ (hL a hL').1, if_neg e]
      exact h2
/-- Behind the search from the start just the nodes with a distance are marked. -/
theorem grow_all {N s : Int} {L : List (Int × Int × Int)} {F : List Bool} (hL : ArcsIn N L) (hN : N ≤ 24) (h0 : 0 ≤ s) (h1 : s < N) (h : Grow L (distL N L s) (List.replicate 24 false) F) (hs : bT F s = true) (u : Int) (hu0 : 0 ≤ u) : bT F u = true ↔ 0 ≤ dAt (distL N L s) u := by
  have hf : ∀ x, bT (List.replicate 24 false) x = false := fun x => by
    unfold bT
    rw [List.getD_eq_getElem?_getD, List.getElem?_replicate]
    split <;> rfl
  have hD := distL_is hL hN h0 h1
  constructor
  · intro hx
    rcases h.sound u hu0 hx with h2 | h2
    · rw [hf] at h2; cases h2
    · exact h2
  · have key : ∀ (n : Nat) (u : Int), 0 ≤ u → u < N → 0 ≤ dAt (distL N L s) u → (dAt (distL N L s) u).toNat < n → bT F u = true := by
      intro n
      induction n with
      | zero => intro u _ _ _ h; omega
      | succ n ih =>
        intro u hu0 hu1 hd hn
        rcases hD.back u hu0 hu1 hd with rfl | ⟨a, ha, rfl, hb1, hb2⟩
        · exact hs
        · have hin := hL a ha
          exact h.shut a ha (ih a.1 hin.1 hin.2.1 hb1 (by omega)) (hf _)
    intro hd
    have hu1 : u < N := by
      rcases Int.lt_or_le u N with h | h
      · exact h
      · have := dAt_out (D := distL N L s) (v := u) (by rw [hD.len]; omega)
        omega
    exact key _ u hu0 hu1 hd (Nat.lt_succ_self _)

/-- The nodes with a distance, rising. -/
def seenL (D : List Int) (k : Nat) : List Int := ((List.range k).filter fun (i : Nat) => decide (0 ≤ dAt D (i : Int))).map fun (i : Nat) => (i : Int)
theorem seenL_yes {D : List Int} {k : Nat} (h : 0 ≤ dAt D (k : Int)) : seenL D (k + 1) = seenL D k ++ [(k : Int)] := by
  unfold seenL
  rw [List.range_succ, List.filter_append, List.map_append]
  simp [h]
theorem seenL_no {D : List Int} {k : Nat} (h : ¬ 0 ≤ dAt D (k : Int)) : seenL D (k + 1) = seenL D k := by
  unfold seenL
  rw [List.range_succ, List.filter_append, List.map_append]
  simp [h]
theorem seenL_len (D : List Int) (k : Nat) : (seenL D k).length ≤ k := by
  unfold seenL
  rw [List.length_map]
  have := List.length_filter_le (fun (i : Nat) => decide (0 ≤ dAt D (i : Int))) (List.range k)
  simpa using this
theorem seenL_out {D : List Int} {q k : Nat} (h : D.length = q) (hk : q ≤ k) : seenL D k = seenL D q := by
  induction k with
  | zero => obtain rfl : q = 0 := by omega
            rfl
  | succ k ih =>
    by_cases e : q = k + 1
    · rw [e]
    · rw [seenL_no (by rw [dAt_out (by omega)]; omega)]
      exact ih (by omega)

end Go.Proofs.Ytffjpfanmnkmgaa

set_option linter.unusedSimpArgs false
set_option linter.unusedVariables false
namespace Go.Proofs.Ytffjpfanmnkmgaa
open Go.RowKit

theorem betterB_iff {a b : Int × Int} : betterB a b = true ↔ b.1 < a.1 ∨ a.1 = b.1 ∧ a.2 < b.2 := by simp [betterB]
theorem topB_le (f : Nat → Int × Int) (k : Nat) : topB f k ≤ k := by
  rcases Nat.eq_zero_or_pos k with rfl | h
  · exact Nat.le_refl _
  · exact Nat.le_of_lt (topB_lt f k h)
/-- None of the first k is better than the one that is told, and none that is as good is ahead of it. -/
theorem topB_max (f : Nat → Int × Int) : ∀ k j, j < k → betterB (f j) (f (topB f k)) = false ∧ (f j = f (topB f k) → topB f k ≤ j)
  | k + 1, j, hj => by
    have ih := topB_max f k
    cases hb : betterB (f k) (f (topB f k)) with
    | true =>
      rw [topB_yes hb]
      have h1 := betterB_iff.1 hb
      by_cases e : j = k
      · subst e
        refine ⟨?_, fun _ => Nat.le_refl _⟩
        cases h : betterB (f j) (f j) with
        | false => rfl
        | true =>
          have := betterB_iff.1 h
          omega
      · obtain ⟨h2, -⟩ := ih j (by omega)
        have h3 : ¬ (betterB (f j) (f (topB f k)) = true) := by rw [h2]; simp
        rw [betterB_iff] at h3
        refine ⟨?_, fun h => ?_⟩
        · cases h : betterB (f j) (f k) with
          | false => rfl
          | true =>
            have := betterB_iff.1 h
            omega
        · rw [h] at h3
          omega
    | false =>
      rw [topB_no hb]
      by_cases e : j = k
      · subst e
        exact ⟨hb, fun _ => topB_le f j⟩
      · exact ih j (by omega)

theorem seenL_count {D : List Int} : ∀ {k : Nat}, k ≤ D.length → (seenL D k).length = cntD (D.take k)
  | 0, _ => by simp [seenL, cntD]
  | k + 1, h => by
    have ih := seenL_count (D := D) (k := k) (by omega)
    have hk : k < D.length := by omega
    by_cases hd : 0 ≤ dAt D (k : Int)
    · rw [seenL_yes hd, cntD_yes hk (by rw [← dAt_el hk]; exact hd), List.length_append, ih]
      rfl
    · rw [seenL_no hd, cntD_no hk (by rw [← dAt_el hk]; exact hd), ih]
theorem seenFL_count {N s : Int} {L : List Arc3} (ho : okB N L = true) (h0 : 0 ≤ s) (h1 : s < N) : ((seenL (distL N L s) N.toNat).length : Int) = (lookI N L s.toNat).1 := by
  have hl := distL_len ho h0 h1
  rw [seenL_count (by rw [hl]; exact Nat.le_refl _), List.take_of_length_le (by rw [hl]; exact Nat.le_refl _)]
  unfold lookI
  have e : ((s.toNat : Nat) : Int) = s := by omega
  rw [e]
theorem mem_seenL {D : List Int} {k : Nat} {v : Int} : v ∈ seenL D k ↔ (0 ≤ v ∧ v < k) ∧ 0 ≤ dAt D v := by
  unfold seenL
  rw [List.mem_map]
  constructor
  · rintro ⟨i, hi, rfl⟩
    rw [List.mem_filter, List.mem_range, decide_eq_true_eq] at hi
    exact ⟨⟨by omega, by omega⟩, hi.2⟩
  · rintro ⟨⟨h0, h1⟩, h2⟩
    have e : ((v.toNat : Nat) : Int) = v := by omega
    exact ⟨v.toNat, by rw [List.mem_filter, List.mem_range, decide_eq_true_eq, e]; exact ⟨by omega, h2⟩, e⟩
/-- Where one comes to one comes from in the graph that is turned. -/
theorem reached_turned {N s v : Int} {L : List Arc3} (ho : okB N L = true) (hs : 0 ≤ s ∧ s < N) (hv : 0 ≤ v ∧ v < N) : v ∈ seenL (distL N L s) N.toNat ↔ s ∈ seenL (distL N (revL L) v) N.toNat := by
  rw [mem_seenL, mem_seenL, distL_of_turned ho hs hv]
  constructor
  · rintro ⟨h1, h2⟩
    exact ⟨by omega, h2⟩
  · rintro ⟨h1, h2⟩
    exact ⟨by omega, h2⟩

end Go.Proofs.Ytffjpfanmnkmgaa

set_option linter.unusedSimpArgs false
set_option linter.unusedVariables false
namespace Go.Proofs.Ytffjpfanmnkmgaa
open Go.RowKit

/-- Is each reached from the other? -/
def mutB (q : Nat) (L : List Arc3) (u v : Nat) : Bool := decide (0 ≤ dAt (distL (q : Int) L (u : Int)) (v : Int) ∧ 0 ≤ dAt (distL (q : Int) L (v : Int)) (u : Int))
theorem mutB_iff {q : Nat} {L : List Arc3} {u v : Nat} : mutB q L u v = true ↔ 0 ≤ dAt (distL (q : Int) L (u : Int)) (v : Int) ∧ 0 ≤ dAt (distL (q : Int) L (v : Int)) (u : Int) := by simp [mutB]
theorem mutB_symm {q : Nat} {L : List Arc3} {u v : Nat} (h : mutB q L u v = true) : mutB q L v u = true := by
  rw [mutB_iff] at h ⊢
  exact ⟨h.2, h.1⟩
theorem mutB_refl {q : Nat} {L : List Arc3} {u : Nat} (ho : okB (q : Int) L = true) (hu : u < q) : mutB q L u u = true := by
  rw [mutB_iff]
  have := (distL_is (s := (u : Int)) (arcsIn_of_ok ho) (okB_elim ho).2.1 (by omega) (by omega)).start
  omega
theorem reach_trans {q : Nat} {L : List Arc3} {a b c : Nat} (ho : okB (q : Int) L = true) (ha : a < q) (hb : b < q) (hc : c < q) (h1 : 0 ≤ dAt (distL (q : Int) L (a : Int)) (b : Int)) (h2 : 0 ≤ dAt (distL (q : Int) L (b : Int)) (c : Int)) : 0 ≤ dAt (distL (q : Int) L (a : Int)) (c : Int) := by
  have hh : has2 (q : Int) L (a : Int) (c : Int) = true := by
    unfold has2
    rw [ho]
    simp
    omega
  have := (triangle (v := (b : Int)) hh (by omega) (by omega) (by rw [distOfI_of ho (by omega) (by omega)]; exact h1) (by rw [distOfI_of ho (by omega) (by omega)]; exact h2)).1
  rwa [distOfI_of ho (by omega) (by omega)] at this
theorem mutB_trans {q : Nat} {L : List Arc3} {a b c : Nat} (ho : okB (q : Int) L = true) (ha : a < q) (hb : b < q) (hc : c < q) (h1 : mutB q L a b = true) (h2 : mutB q L b c = true) : mutB q L a c = true := by
  rw [mutB_iff] at h1 h2 ⊢
  exact ⟨reach_trans ho ha hb hc h1.1 h2.1, reach_trans ho hc hb ha h2.2 h1.2⟩
/-- The first of the nodes below k that is in one part with v. -/
def firI (q : Nat) (L : List Arc3) : Nat → Nat → Int
  | 0, _ => -1
  | k + 1, v => if firI q L k v < 0 ∧ mutB q L k v = true then (k : Int) else firI q L k v
theorem firI_inv (q : Nat) (L : List Arc3) (v : Nat) : ∀ k, (firI q L k v = -1 ∧ ∀ u, u < k → mutB q L u v = false) ∨ ∃ u, u < k ∧ firI q L k v = (u : Int) ∧ mutB q L u v = true ∧ ∀ x, x < u → mutB q L x v = false
  | 0 => .inl ⟨rfl, fun u h => absurd h (by omega)⟩
  | k + 1 => by
    rcases firI_inv q L v k with ⟨e, h⟩ | ⟨u, h1, e, h2, h3⟩
    · cases hb : mutB q L k v with
      | true =>
        refine .inr ⟨k, by omega, ?_, hb, h⟩
        unfold firI
        rw [if_pos ⟨by omega, hb⟩]
      | false =>
        refine .inl ⟨?_, fun u hu => ?_⟩
        · unfold firI
          rw [if_neg (by rw [hb]; simp), e]
        · rcases Nat.lt_or_ge u k with h' | h'
          · exact h u h'
          · obtain rfl : u = k := by omega
            exact hb
    · refine .inr ⟨u, by omega, ?_, h2, h3⟩
      unfold firI
      rw [if_neg (by omega), e]
/-- Where a part is known already nothing new is told. -/
theorem firI_skip {q : Nat} {L : List Arc3} {k v : Nat} (ho : okB (q : Int) L = true) (hk : k < q) (hv : v < q) (h : 0 ≤ firI q L k k) : firI q L (k + 1) v = firI q L k v := by
  show (if firI q L k v < 0 ∧ mutB q L k v = true then (k : Int) else firI q L k v) = _
  rw [if_neg]
  rintro ⟨h1, h2⟩
  rcases firI_inv q L k k with ⟨e, -⟩ | ⟨u, hu, e, h3, -⟩
  · omega
  · rcases firI_inv q L v k with ⟨-, hn⟩ | ⟨u', -, e', -, -⟩
    · have := hn u hu
      rw [mutB_trans ho (by omega) hk hv h3 h2] at this
      cases this
    · omega
theorem firI_set {q : Nat} {L : List Arc3} {k v : Nat} (ho : okB (q : Int) L = true) (hk : k < q) (hv : v < q) (h : firI q L k k < 0) : firI q L (k + 1) v = if mutB q L k v = true then (k : Int) else firI q L k v := by
  show (if firI q L k v < 0 ∧ mutB q L k v = true then (k : Int) else firI q L k v) = _
  by_cases hm : mutB q L k v = true
  · have hneg : firI q L k v < 0 := by
      rcases firI_inv q L v k with ⟨e, -⟩ | ⟨u, hu, e, h3, -⟩
      · omega
      · exfalso
        rcases firI_inv q L k k with ⟨-, hn⟩ | ⟨u', -, e', -, -⟩
        · have := hn u hu
          rw [mutB_trans ho (by omega) hv hk h3 (mutB_symm hm)] at this
          cases this
        · omega
    rw [if_pos hm, if_pos ⟨hneg, hm⟩]
  · rw [if_neg hm, if_neg (fun h => hm h.2)]
/-- What is told of the first k nodes. -/
def partK (q : Nat) (L : List Arc3) (k : Nat) : List Int := (List.range q).map fun v => firI q L k v
theorem partK_len (q : Nat) (L : List Arc3) (k : Nat) : (partK q L k).length = q := by simp [partK]
theorem partK_at {q : Nat} {L : List Arc3} {k v : Nat} (hv : v < (partK q L k).length) : (partK q L k)[v] = firI q L k v := by simp [partK]
theorem partK_zero (q : Nat) (L : List Arc3) : partK q L 0 = List.replicate q (-1) := by
  refine List.ext_getElem (by rw [partK_len]; simp) fun i h1 h2 => ?_
  rw [partK_at, List.getElem_replicate]
  rfl
theorem partK_skip {q : Nat} {L : List Arc3} {k : Nat} (ho : okB (q : Int) L = true) (hk : k < q) (h : 0 ≤ firI q L k k) : partK q L (k + 1) = partK q L k := by
  refine List.ext_getElem (by rw [partK_len, partK_len]) fun i h1 h2 => ?_
  rw [partK_at, partK_at]
  rw [partK_len] at h1
  exact firI_skip ho hk h1 h
/-- While the inner loop runs. -/
def partJ (q : Nat) (L : List Arc3) (k j : Nat) : List Int := (List.range q).map fun v => if v < j ∧ mutB q L k v = true then (k : Int) else firI q L k v
theorem partJ_len (q : Nat) (L : List Arc3) (k j : Nat) : (partJ q L k j).length = q := by simp [partJ]
theorem partJ_zero (q : Nat) (L : List Arc3) (k : Nat) : partJ q L k 0 = partK q L k := by
  unfold partJ partK
  refine List.map_congr_left fun v _ => ?_
  rw [if_neg (by omega)]
theorem partJ_yes {q : Nat} {L : List Arc3} {k j : Nat} (h : mutB q L k j = true) : partJ q L k (j + 1) = (partJ q L k j).set j (k : Int) := by
  refine List.ext_getElem (by simp [partJ]) fun i h1 h2 => ?_
  rw [List.getElem_set]
  simp only [partJ, List.getElem_map, List.getElem_range]
  by_cases e : j = i
  · subst e
    rw [if_pos rfl, if_pos ⟨by omega, h⟩]
  · rw [if_neg e]
    have : (i < j + 1) ↔ (i < j) := by omega
    simp only [this]
theorem partJ_no {q : Nat} {L : List Arc3} {k j : Nat} (h : mutB q L k j = false) : partJ q L k (j + 1) = partJ q L k j := by
  unfold partJ
  refine List.map_congr_left fun v _ => ?_
  by_cases e : v = j
  · subst e
    rw [if_neg (by rw [h]; simp), if_neg (by omega)]
  · have : (v < j + 1) ↔ (v < j) := by omega
    simp only [this]
theorem partJ_all {q : Nat} {L : List Arc3} {k : Nat} (ho : okB (q : Int) L = true) (hk : k < q) (h : firI q L k k < 0) : partJ q L k q = partK q L (k + 1) := by
  refine List.ext_getElem (by rw [partJ_len, partK_len]) fun i h1 h2 => ?_
  rw [partJ_len] at h1
  rw [partK_at, firI_set ho hk h1 h]
  simp only [partJ, List.getElem_map, List.getElem_range]
  simp only [h1, true_and]

/-- The least so far of those of T that are in B, and v. -/
def leastS (T B : List Int) (v : Int) : Nat → Int
  | 0 => v
  | i + 1 => if T.getD i 0 ∈ B then min (leastS T B v i) (T.getD i 0) else leastS T B v i
theorem leastS_inv (T B : List Int) (v : Int) : ∀ i, i ≤ T.length → leastS T B v i ≤ v ∧ (leastS T B v i = v ∨ leastS T B v i ∈ T ∧ leastS T B v i ∈ B) ∧ ∀ j (hj : j < i) (hl : j < T.length), T[j] ∈ B → leastS T B v i ≤ T[j]
  | 0, _ => ⟨Int.le_refl _, .inl rfl, fun j h => absurd h (by omega)⟩
  | i + 1, hi => by
    obtain ⟨h1, h2, h3⟩ := leastS_inv T B v i (by omega)
    have hg : T.getD i 0 = T[i]'(by omega) := by simp [show i < T.length from by omega]
    unfold leastS
    rw [hg]
    by_cases hb : T[i]'(by omega) ∈ B
    · rw [if_pos hb]
      refine ⟨by omega, ?_, fun j hj hl hB => ?_⟩
      · rcases Int.le_total (leastS T B v i) (T[i]'(by omega)) with h | h
        · rw [Int.min_eq_left h]
          exact h2
        · rw [Int.min_eq_right h]
          exact .inr ⟨List.getElem_mem _, hb⟩
      · by_cases e : j = i
        · subst e
          omega
        · have := h3 j (by omega) hl hB
          omega
    · rw [if_neg hb]
      refine ⟨h1, h2, fun j hj hl hB => ?_⟩
      by_cases e : j = i
      · subst e
        exact absurd hB hb
      · exact h3 j (by omega) hl hB
theorem leastS_all {q : Nat} {L : List Arc3} {v : Nat} (ho : okB (q : Int) L = true) (hv : v < q) : leastS (seenL (distL q L v) q) (seenL (distL q (revL L) v) q) v (seenL (distL q L v) q).length = firI q L q v := by
  obtain ⟨h1, h2, h3⟩ := leastS_inv (seenL (distL q L v) q) (seenL (distL q (revL L) v) q) v _ (Nat.le_refl _)
  obtain ⟨m, hm⟩ : ∃ m, m = leastS (seenL (distL q L v) q) (seenL (distL q (revL L) v) q) v (seenL (distL q L v) q).length := ⟨_, rfl⟩
  rw [← hm] at h1 h2 h3 ⊢
  have hin : ∀ u : Nat, u < q → mutB q L u v = true → m ≤ (u : Int) := by
    intro u hu h
    rw [mutB_iff] at h
    have e1 : (u : Int) ∈ seenL (distL q L v) q := mem_seenL.2 ⟨by omega, h.2⟩
    have e2 : (u : Int) ∈ seenL (distL q (revL L) v) q := mem_seenL.2 ⟨by omega, by rw [distL_of_turned ho (by omega) (by omega)]; exact h.1⟩
    obtain ⟨j, hj, e⟩ := List.getElem_of_mem e1
    have := h3 j hj hj (by rw [e]; exact e2)
    rwa [e] at this
  have hmu : ∃ u : Nat, u < q ∧ m = (u : Int) ∧ mutB q L u v = true := by
    rcases h2 with e | ⟨e1, e2⟩
    · exact ⟨v, hv, e, mutB_refl ho hv⟩
    · obtain ⟨⟨a1, a2⟩, a3⟩ := mem_seenL.1 e1
      obtain ⟨-, b3⟩ := mem_seenL.1 e2
      rw [distL_of_turned ho (by omega) (by omega)] at b3
      refine ⟨m.toNat, by omega, by omega, ?_⟩
      rw [mutB_iff]
      have : ((m.toNat : Nat) : Int) = m := by omega
      rw [this]
      exact ⟨b3, a3⟩
  obtain ⟨u, hu, e, hmu⟩ := hmu
  rcases firI_inv q L v q with ⟨-, hn⟩ | ⟨x, hx, e', h4, h5⟩
  · have := hn u hu
    rw [hmu] at this
    cases this
  · rw [e']
    have := hin x hx h4
    rcases Nat.lt_or_ge u x with h | h
    · have := h5 u h
      rw [hmu] at this
      cases this
    · omega
/-- Of each node the least of its part; none where the graph is not right. -/
def partsFL (N : Int) (L : List Arc3) : List Int := if okB N L = true then partK N.toNat L N.toNat else []
theorem partsFL_len (N : Int) (L : List Arc3) : (partsFL N L).length ≤ 1048576 := by
  unfold partsFL
  split
  · rename_i h
    have := (okB_elim h).2.1
    rw [partK_len]
    omega
  · simp

end Go.Proofs.Ytffjpfanmnkmgaa

set_option linter.unusedSimpArgs false
set_option linter.unusedVariables false
namespace Go.Proofs.Ytffjpfanmnkmgaa
open Go.RowKit

/-- The marks lie in an array of 24. -/
structure BoolsAt (w : World) (b : Nat) (F : List Bool) : Prop where
  len : F.length = 24
  lt : b < w.heap.size
  cell : ∀ i (h : i < F.length), w.cell? ⟨b, i, none⟩ = some (.bool F[i])
  free : ∀ i : Nat, i < 24 → w.frozen? ⟨b, i, none⟩ = false
theorem BoolsAt.turn {w w' : World} {b : Nat} {F : List Bool} (h : BoolsAt w b F) {S : Nat → Prop} (k : Turn S w w') (hS : ¬ S b) : BoolsAt w' b F :=
  ⟨h.len, Nat.lt_of_lt_of_le h.lt k.size, fun i hi => (k.cells h.lt hS i).1.trans (h.cell i hi), fun i hi => (k.cells h.lt hS i).2.trans (h.free i hi)⟩
theorem BoolsAt.bl {w w' : World} {b : Nat} {F : List Bool} (h : BoolsAt w b F) (k : Bl w w') : BoolsAt w' b F := h.turn (Turn.of_bl (S := fun _ => False) k) id
theorem BoolsAt.set {w : World} {b : Nat} {F : List Bool} (h : BoolsAt w b F) (u : Nat) : BoolsAt (w.setCell ⟨b, u, none⟩ (.bool true)) b (F.set u true) := by
  refine ⟨by rw [List.length_set]; exact h.len, by simpa using h.lt, fun i hi => ?_, fun i hi => by rw [World.frozen?_setCell]; exact h.free i hi⟩
  have hi' : i < F.length := by rw [List.length_set] at hi; exact hi
  rw [List.getElem_set]
  by_cases e : u = i
  · subst e
    rw [World.cell?_setCell_same' _ _ _ (by rw [h.cell _ hi']; rfl), if_pos rfl]
  · rw [World.cell?_setCell_other _ _ _ _ (by intro e'; injection e' with _ e2; exact e e2), h.cell i hi', if_neg e]
/-- What the search has beside its marks. -/
structure RIn (w : World) (rb gb fb : Nat) (N : Int) (A : Option Addr) (n c : Nat) (L : List Arc3) : Prop where
  g0 : w.cell? ⟨gb, 0, none⟩ = some (.int .i64 N)
  g1 : w.cell? ⟨gb, 1, none⟩ = some (.slice A n c)
  f0 : w.cell? ⟨fb, 0, none⟩ = some (.func (.func 123) #[] #[.pointer (some ⟨rb, 0, none⟩), .pointer (some ⟨gb, 0, none⟩), .pointer (some ⟨fb, 0, none⟩)])
  arcs : ArcsAt w w.heap.size A L
  ne : gb ≠ rb ∧ fb ≠ rb ∧ (0 < L.length → blockOf A ≠ some rb)
theorem RIn.turn {w w' : World} {rb gb fb : Nat} {N : Int} {A : Option Addr} {n c : Nat} {L : List Arc3} (h : RIn w rb gb fb N A n c L) (k : Turn (fun i => i = rb) w w') : RIn w' rb gb fb N A n c L :=
  ⟨(k.cell (World.block_lt_of_cell? _ _ h.g0) h.ne.1 0).trans h.g0, (k.cell (World.block_lt_of_cell? _ _ h.g1) h.ne.1 1).trans h.g1, (k.cell (World.block_lt_of_cell? _ _ h.f0) h.ne.2.1 0).trans h.f0,
    (h.arcs.turn (Nat.le_refl _) k (fun h0 g e => fun e2 => h.ne.2.2 h0 (by rw [e, e2]))).more k.size, h.ne⟩

set_option maxRecDepth 100000 in
set_option maxHeartbeats 8000000 in
theorem goTo_any (N s : Int) (A : Option Addr) (n c : Nat) (L : List Arc3) (hn : n = L.length) (hc : n ≤ c) (hm : n ≤ 1048576) (ho : okB N L = true) (h0 : 0 ≤ s) (h1 : s < N) (rb gb fb : Nat) :
    ∀ (m : Nat) (F : List Bool) (v : Nat) (w : World), falses F < m → (v : Int) < N → 0 ≤ dAt (distL N L s) v → BoolsAt w rb F → RIn w rb gb fb N A n c L →
      Calls Try.prog 123 #[.int .i64 (v : Int), .pointer (some ⟨rb, 0, none⟩), .pointer (some ⟨gb, 0, none⟩), .pointer (some ⟨fb, 0, none⟩)] w fun e w' =>
        e = .returned (.tuple #[]) ∧ ∃ F', BoolsAt w' rb F' ∧ Grow L (distL N L s) F F' ∧ bT F' (v : Int) = true ∧ Turn (fun i => i = rb) w w' := by
  have HN := Lib.hid hn
  have HO := Lib.hid ho
  have hN24 := (okB_elim ho).2.1
  have HD := Lib.hid (distL_is (s := s) (arcsIn_of_ok ho) hN24 h0 h1)
  obtain ⟨D, hD⟩ : ∃ D, D = distL N L s := ⟨_, rfl⟩
  rw [← hD] at HD ⊢
  clear hD hn ho
  intro m
  induction m with
  | zero => intro F v w hf; omega
  | succ m ih =>
    have IH := Lib.hid ih
    clear ih
    intro F v w hf hv hd hB hI
    have BB := Lib.hid hB
    have II := Lib.hid hI
    have hv24 : v < 24 := by omega
    have p0 := BB.out.cell v (by rw [BB.out.len]; exact hv24)
    have p1 := BB.out.free v hv24
    have v0 : (0 : Int) ≤ (v : Int) := by omega
    have v1 : (v : Int) < 24 := by omega
    have EB := Lib.hid (show bT F (v : Int) = F[v]'(by rw [BB.out.len]; exact hv24) from by unfold bT; simp [List.getD_eq_getElem?_getD, BB.out.len, hv24])
    obtain ⟨g0, g1, f0, -, ne1, ne2, -⟩ := hI
    have hlt := BB.out.lt
    clear hB
    cases hb : F[v]'(by rw [BB.out.len]; exact hv24) with
    | true =>
      rw [hb] at p0 EB
      go_enter Try.func123, Try.ntmps123
      go_wp2
      ((try simp only [Exit.inBlock, Exit.then]); refine bodyPost_ret (results_none rfl _ _ _) rfl ?_)
      exact ⟨rfl, F, BB.out, Grow.refl _ _ _, EB.out, Turn.refl _ _⟩
    | false =>
      rw [hb] at p0 EB
      have FS := Lib.hid (falses_set BB.out.len hv24 EB.out)
      have B1 := Lib.hid (BB.out.set v)
      obtain ⟨w1, hw1⟩ : ∃ w1, w1 = w.setCell ⟨rb, v, none⟩ (.bool true) := ⟨_, rfl⟩
      have T1 := Lib.hid (show Turn (fun i => i = rb) w w1 from by rw [hw1]; exact Turn.set (p := ⟨rb, v, none⟩) (Turn.refl (fun i => i = rb) _) (.inl rfl) _)
      have I1 := Lib.hid (II.out.turn T1.out)
      rw [← hw1] at B1
      have HW1 := Lib.hid hw1
      clear hw1
      go_enter Try.func123, Try.ntmps123
      go_wp2_with fail
      rw [← HW1.out]
      have hbo := (okB_elim HO.out).2.2.2.1
      refine (arcsFrom_any N v A n c L HN.out _ hm hc (sorted_of_ok HO.out) (fun a ha => (arcsIn_of_ok HO.out a ha).2.2.1) (by omega) (by omega) I1.out.arcs).mono ?_
      rintro e w2 ⟨A', c', rfl, hc', ha', hbk, hb2⟩
      have HA := Lib.hid ha'
      have BK := Lib.hid hbk
      have s12 := hb2.size
      have T2 := Lib.hid (T1.out.bl hb2)
      have B2 := Lib.hid (B1.out.bl hb2)
      have I2 := Lib.hid (I1.out.turn (Turn.of_bl (S := fun i => i = rb) hb2))
      obtain ⟨M, hM⟩ : ∃ M, M = fromL (v : Int) L := ⟨_, rfl⟩
      rw [← hM] at hc' HA ⊢
      have HMM := Lib.hid hM
      obtain ⟨ml, hml⟩ : ∃ ml, ml = M.length := ⟨_, rfl⟩
      rw [← hml] at hc' ⊢
      have HML := Lib.hid hml
      have hml2 : ml ≤ 1048576 := by rw [hml, hM]; exact Nat.le_trans (List.length_filter_le _ _) (by rw [← HN.out]; exact hm)
      clear ha' hbk hb2 hM hml p0 p1 g0 g1 f0
      go_wp2_with fail
      go_loopw [16] (fun i wr => ∃ (j : Nat) (G : List Bool), j ≤ ml ∧ i = .int .i64 j ∧ BoolsAt wr rb G ∧ Hid (Grow L D (F.set v true) G) ∧ Hid (∀ t (h : t < M.length), t < j → bT G M[t].2.1 = true) ∧ Turn (fun i => i = rb) w2 wr) (fun i _ => ml - (intOf i).toNat)
      case atStart => exact ⟨0, F.set v true, by omega, rfl, B2.out, Lib.hid (Grow.refl _ _ _), Lib.hid (fun t h h' => absurd h' (by omega)), Turn.refl _ _⟩
      case round =>
        obtain ⟨j, G, hj, rfl, hBj, GR, DN, hT⟩ := hrel
        have BJ := Lib.hid hBj
        have TJ := Lib.hid hT
        have IJ := Lib.hid (I2.out.turn hT)
        have f0 := IJ.out.f0
        have hfb := World.block_lt_of_cell? _ _ f0
        simp only at hfb
        have sj := hT.size
        clear hBj hT
        by_cases hlt2 : j < ml
        · have hjl : j < M.length := by have := HML.out; omega
          obtain ⟨g1, o1, rfl, hg1, hc1⟩ := HA.out (by omega)
          obtain ⟨p1, p2, p3⟩ := hc1 j hjl
          have hgr : ¬ g1 = rb := fun e => by
            have h := I2.out.ne.2.2 (by
              have h9 : 0 < (fromL (v : Int) L).length := by rw [← HMM.out]; omega
              have := List.length_filter_le (fun a : Arc3 => a.1 == (v : Int)) L
              unfold fromL at h9
              omega)
            exact h (BK.out.symm.trans (by rw [← e]; rfl))
          rw [← TJ.out.cell (Nat.lt_of_lt_of_le hg1 s12) hgr] at p1 p2 p3
          have hmem : M[j] ∈ fromL (v : Int) L := by rw [← HMM.out]; exact List.getElem_mem _
          have hmL := List.mem_filter.1 hmem
          have hin := arcsIn_of_ok HO.out M[j] hmL.1
          have hsrc : M[j].1 = (v : Int) := by simpa using hmL.2
          have hdst := (HD.out.arc M[j] hmL.1 (by rw [hsrc]; exact hd)).1
          have DST := Lib.hid hdst
          generalize hx : M[j].1 = x at p1
          generalize hz : M[j].2.2 = z at p3
          obtain ⟨y, hy⟩ : ∃ y : Nat, M[j].2.1 = (y : Int) := ⟨M[j].2.1.toNat, by omega⟩
          have HY := Lib.hid hy
          rw [hy] at p2
          have hyN : (y : Int) < N := by omega
          have hyD : 0 ≤ dAt D (y : Int) := by rw [← hy]; exact hdst
          have hfl : falses G < m := by
            have h1 := falses_mono GR.out.mono
            have h2 := FS.out
            omega
          have i0 : (0 : Int) ≤ (j : Int) := by omega
          have i1 : (j : Int) < (ml : Int) := by omega
          clear hmem hmL hin hsrc hdst hx hz hy hc1
          go_wp2_with fail
          refine (IH.out G y _ hfl hyN hyD (BJ.out.bl (Bl.alloc_ (Bl.refl _) _)) (IJ.out.turn (Turn.of_bl (Bl.alloc_ (Bl.refl _) _)))).mono ?_
          rintro e w4 ⟨rfl, G', hB', hG', ht', hT'⟩
          have BP := Lib.hid hB'
          have GP := Lib.hid hG'
          have TP := Lib.hid (TJ.out.trans ((Turn.of_bl (S := fun i => i = rb) (Bl.alloc_ (Bl.refl _) _)).trans hT' (fun _ _ h => h)) (fun _ _ h => h))
          have TT := Lib.hid ht'
          clear hB' hG' hT' ht' p1 p2 p3 f0
          go_wp2
          go_roundw
          case rel =>
            refine ⟨j + 1, G', by omega, by go_num, BP.out, Lib.hid (Grow.trans (arcsIn_of_ok HO.out) GR.out GP.out), Lib.hid (fun t h ht => ?_), TP.out⟩
            rcases Nat.lt_or_ge t j with h' | h'
            · have hin : 0 ≤ M[t].2.1 := (arcsIn_of_ok HO.out M[t] (List.mem_filter.1 (by rw [← show M = L.filter _ from HMM.out]; exact List.getElem_mem _)).1).2.2.1
              exact GP.out.mono _ hin (DN.out t h h')
            · obtain rfl : t = j := by omega
              rw [HY.out]
              exact TT.out
          case measure => simp [intOf]; omega
        · go_wp2
          go_end0
          have hall : ∀ a ∈ L, a.1 = (v : Int) → bT G a.2.1 = true := fun a ha e => by
            have hmem : a ∈ M := by rw [HMM.out]; exact List.mem_filter.2 ⟨ha, by simpa using e⟩
            obtain ⟨t, ht, rfl⟩ := List.mem_iff_getElem.1 hmem
            exact DN.out t ht (by have := HML.out; omega)
          obtain ⟨k1, k2⟩ := Grow.node (arcsIn_of_ok HO.out) BB.out.len hv24 hd GR.out hall
          exact ⟨rfl, G, BJ.out, k1, k2, T2.out.trans TJ.out (fun _ _ h => h)⟩

end Go.Proofs.Ytffjpfanmnkmgaa

set_option linter.unusedSimpArgs false
set_option linter.unusedVariables false
namespace Go.Proofs.Ytffjpfanmnkmgaa
open Go.RowKit

def csB (F : List Bool) : List Value := F.map .bool
theorem csB_len (F : List Bool) : (csB F).length = F.length := by simp [csB]
theorem csB_one (F : List Bool) : (csB F).toArray.all (·.oneCell') = true := by
  refine Array.all_eq_true_iff_forall_mem.2 fun v hv => ?_
  simp [csB] at hv
  rcases hv with ⟨_, rfl⟩ | ⟨_, rfl⟩ <;> rfl
theorem BoolsAt.range {w : World} {b : Nat} {F : List Bool} (h : BoolsAt w b F) : w.rangeAt b 0 (csB F) := fun j v hv => by
  obtain ⟨hj, rfl⟩ := List.getElem?_eq_some_iff.1 hv
  rw [csB_len] at hj
  rw [Nat.zero_add, h.cell j hj]
  simp [csB]
theorem BoolsAt.there_ {w : World} {b : Nat} {F : List Bool} (h : BoolsAt w b F) : w.there b 0 24 := fun j hj => by
  rw [Nat.zero_add]
  exact ⟨by rw [h.cell j (by rw [h.len]; exact hj)]; rfl, h.free j hj⟩
theorem bools_new (w : World) : BoolsAt (w.alloc (.cells #[.bool false, .bool false, .bool false, .bool false, .bool false, .bool false, .bool false, .bool false, .bool false, .bool false, .bool false, .bool false, .bool false, .bool false, .bool false, .bool false, .bool false, .bool false, .bool false, .bool false, .bool false, .bool false, .bool false, .bool false] 111)) w.heap.size (List.replicate 24 false) := by
  refine ⟨by simp, by simp, fun i hi => ?_, fun i hi => ?_⟩
  · rw [List.length_replicate] at hi
    rw [List.getElem_replicate]
    match i, hi with
    | 0, _ | 1, _ | 2, _ | 3, _ | 4, _ | 5, _ | 6, _ | 7, _ | 8, _ | 9, _ | 10, _ | 11, _ | 12, _ | 13, _ | 14, _ | 15, _ | 16, _ | 17, _ | 18, _ | 19, _ | 20, _ | 21, _ | 22, _ | 23, _ => simp [go_sem]
    | (k + 24), h => exact absurd h (by omega)
  · simp [go_sem]
theorem BoolsAt.stored {w : World} {b : Nat} {F G : List Bool} (h : BoolsAt w b F) (hG : G.length = 24) : BoolsAt (w.setCells b 0 (csB G)) b G := by
  refine ⟨hG, by rw [setCells_size]; exact h.lt, fun i hi => ?_, fun i hi => ?_⟩
  · have := World.rangeAt_setCells_same w b 0 (csB G) (by rw [csB_len, hG]; exact h.there_) i (.bool G[i]) (by simp [csB, hi])
    simpa using this
  · rw [World.frozen?_setCells]
    exact h.free i hi
theorem size24b : (Try.prog.info? 111).map (·.size) = some 24 := by kernel_rfl

set_option maxRecDepth 100000 in
set_option maxHeartbeats 8000000 in
theorem reachedFrom_any (N s : Int) (A : Option Addr) (n c : Nat) (L : List Arc3) (hn : n = L.length) (hc : n ≤ c) (hm : n ≤ 1048576) (ho : okB N L = true) (h0 : 0 ≤ s) (h1 : s < N) (w : World) (H1 : ArcsAt w w.heap.size A L) :
    Calls Try.prog 86 #[.agg #[.int .i64 N, .slice A n c], .int .i64 s] w fun e w' => ∃ F : List Bool, e = .returned (.agg (csB F).toArray) ∧ F.length = 24 ∧ (∀ u : Int, 0 ≤ u → (bT F u = true ↔ 0 ≤ dAt (distL N L s) u)) ∧ Bl w w' := by
  have K1 := Lib.hid H1
  have HN := Lib.hid hn
  have HO := Lib.hid ho
  have hN24 := (okB_elim ho).2.1
  clear H1 hn ho
  obtain ⟨v, rfl⟩ : ∃ v : Nat, s = v := ⟨s.toNat, by omega⟩
  have hd0 : 0 ≤ dAt (distL N L (v : Int)) (v : Int) := by
    have := (distL_is (s := (v : Int)) (arcsIn_of_ok HO.out) hN24 h0 h1).start
    omega
  go_enter Try.func86, Try.ntmps86
  have HX1 := Lib.hid (show BoolsAt ((w.alloc (.cells #[.int .i64 N, .slice A n c] 38)).alloc (.cells #[.bool false, .bool false, .bool false, .bool false, .bool false, .bool false, .bool false, .bool false, .bool false, .bool false, .bool false, .bool false, .bool false, .bool false, .bool false, .bool false, .bool false, .bool false, .bool false, .bool false, .bool false, .bool false, .bool false, .bool false] 111)) (w.heap.size + 1) (List.replicate 24 false) from by simpa using bools_new (w.alloc (.cells #[.int .i64 N, .slice A n c] 38)))
  have HX2 := Lib.hid (show BoolsAt (((w.alloc (.cells #[.int .i64 N, .slice A n c] 38)).alloc (.cells #[.bool false, .bool false, .bool false, .bool false, .bool false, .bool false, .bool false, .bool false, .bool false, .bool false, .bool false, .bool false, .bool false, .bool false, .bool false, .bool false, .bool false, .bool false, .bool false, .bool false, .bool false, .bool false, .bool false, .bool false] 111)).alloc (.cells #[.bool false, .bool false, .bool false, .bool false, .bool false, .bool false, .bool false, .bool false, .bool false, .bool false, .bool false, .bool false, .bool false, .bool false, .bool false, .bool false, .bool false, .bool false, .bool false, .bool false, .bool false, .bool false, .bool false, .bool false] 111)) (w.heap.size + 1 + 1) (List.replicate 24 false) from by simpa using bools_new ((w.alloc (.cells #[.int .i64 N, .slice A n c] 38)).alloc (.cells #[.bool false, .bool false, .bool false, .bool false, .bool false, .bool false, .bool false, .bool false, .bool false, .bool false, .bool false, .bool false, .bool false, .bool false, .bool false, .bool false, .bool false, .bool false, .bool false, .bool false, .bool false, .bool false, .bool false, .bool false] 111)))
  have BW := Lib.hid (show Bl w (((w.alloc (.cells #[.int .i64 N, .slice A n c] 38)).alloc (.cells #[.bool false, .bool false, .bool false, .bool false, .bool false, .bool false, .bool false, .bool false, .bool false, .bool false, .bool false, .bool false, .bool false, .bool false, .bool false, .bool false, .bool false, .bool false, .bool false, .bool false, .bool false, .bool false, .bool false, .bool false] 111)).alloc (.cells #[.bool false, .bool false, .bool false, .bool false, .bool false, .bool false, .bool false, .bool false, .bool false, .bool false, .bool false, .bool false, .bool false, .bool false, .bool false, .bool false, .bool false, .bool false, .bool false, .bool false, .bool false, .bool false, .bool false, .bool false] 111)) from Bl.alloc_ (Bl.alloc_ (Bl.alloc_ (Bl.refl w) _) _) _)
  have HXB := Lib.hid (show ∀ o, Bl ((w.alloc (.cells #[.int .i64 N, .slice A n c] 38)).alloc (.cells #[.bool false, .bool false, .bool false, .bool false, .bool false, .bool false, .bool false, .bool false, .bool false, .bool false, .bool false, .bool false, .bool false, .bool false, .bool false, .bool false, .bool false, .bool false, .bool false, .bool false, .bool false, .bool false, .bool false, .bool false] 111)) ((((w.alloc (.cells #[.int .i64 N, .slice A n c] 38)).alloc (.cells #[.bool false, .bool false, .bool false, .bool false, .bool false, .bool false, .bool false, .bool false, .bool false, .bool false, .bool false, .bool false, .bool false, .bool false, .bool false, .bool false, .bool false, .bool false, .bool false, .bool false, .bool false, .bool false, .bool false, .bool false] 111)).alloc (.cells #[.bool false, .bool false, .bool false, .bool false, .bool false, .bool false, .bool false, .bool false, .bool false, .bool false, .bool false, .bool false, .bool false, .bool false, .bool false, .bool false, .bool false, .bool false, .bool false, .bool false, .bool false, .bool false, .bool false, .bool false] 111)).alloc o) from fun o => Bl.alloc_ (Bl.alloc_ (Bl.refl _) _) _)
  go_wp2_with fail
  obtain ⟨X, hX⟩ : ∃ X, X = (((w.alloc (.cells #[.int .i64 N, .slice A n c] 38)).alloc (.cells #[.bool false, .bool false, .bool false, .bool false, .bool false, .bool false, .bool false, .bool false, .bool false, .bool false, .bool false, .bool false, .bool false, .bool false, .bool false, .bool false, .bool false, .bool false, .bool false, .bool false, .bool false, .bool false, .bool false, .bool false] 111)).alloc (.cells #[.bool false, .bool false, .bool false, .bool false, .bool false, .bool false, .bool false, .bool false, .bool false, .bool false, .bool false, .bool false, .bool false, .bool false, .bool false, .bool false, .bool false, .bool false, .bool false, .bool false, .bool false, .bool false, .bool false, .bool false] 111)).alloc (.cells #[.func (.func 123) #[] #[.pointer (some ⟨w.heap.size + 1 + 1, 0, none⟩), .pointer (some ⟨w.heap.size, 0, none⟩), .pointer (some ⟨w.heap.size + 1 + 1 + 1, 0, none⟩)]] 154) := ⟨_, rfl⟩
  rw [← hX]
  have Y1 := Lib.hid (show BoolsAt X (w.heap.size + 1) (List.replicate 24 false) from by rw [hX]; exact HX1.out.bl (HXB.out _))
  have Y2 := Lib.hid (show BoolsAt X (w.heap.size + 1 + 1) (List.replicate 24 false) from by rw [hX]; exact HX2.out.bl (Bl.alloc_ (Bl.refl _) _))
  have BX := Lib.hid (show Bl w X from by rw [hX]; exact Bl.alloc_ BW.out _)
  have HR := Lib.hid (show RIn X (w.heap.size + 1 + 1) w.heap.size (w.heap.size + 1 + 1 + 1) N A n c L from by
    refine ⟨?_, ?_, ?_, K1.out.bl BX.out, by omega, by omega, fun h0 e => ?_⟩
    · rw [hX]; simp [go_sem]
    · rw [hX]; simp [go_sem]
    · rw [hX]; simp [go_sem]
    · obtain ⟨g, off, rfl, hg, -⟩ := K1.out h0
      simp [blockOf] at e
      omega)
  clear hX HX1 HX2 HXB
  refine (goTo_any N v A n c L HN.out hc hm HO.out h0 h1 (w.heap.size + 1 + 1) w.heap.size (w.heap.size + 1 + 1 + 1) _ _ v X (Nat.lt_succ_self _) h1 hd0 Y2.out HR.out).mono ?_
  rintro e w1 ⟨rfl, F, hB, hG, ht, hT⟩
  have FB := Lib.hid hB
  have FL := Lib.hid hB.len
  have FE := Lib.hid (fun u hu => grow_all (arcsIn_of_ok HO.out) hN24 h0 h1 hG ht u hu)
  have R1 := Lib.hid (Y1.out.turn hT (by omega))
  have B1 := Lib.hid (show Bl w w1 from Turn.to_bl BX.out hT (fun i hi => by rw [hi]; omega))
  clear hB hG ht hT
  go_wp2_with (first | (refine wpList_load_mid rfl 111 (.tmp 5) rfl (w.heap.size + 1 + 1) 0 rfl (csB F) _ FB.out.range Try.underlying111 rfl (by rw [csB_len, FL.out]; exact size24b) ?_) | (refine wpList_store_mid rfl 111 (.tmp 4) (.tmp 11) rfl (w.heap.size + 1) 0 (csB F).toArray rfl rfl ?c1 ?c2 (csB_one _) ?_))
  case c1 => simpa [csB_len, FL.out] using R1.out.there_
  case c2 => simpa [csB_len, FL.out] using size24b
  have hov := R1.out.stored FL.out
  refine ⟨rfl, _, results_cell_mid rfl _ _ (w.heap.size + 1) (csB F) _ rfl hov.range Try.underlying111 rfl (by rw [csB_len, FL.out]; exact size24b), ?_⟩
  exact ⟨F, rfl, FL.out, FE.out, Bl.setCells_ _ (by omega) _ _ _ B1.out⟩

theorem index24b (F : List Bool) (hE : F.length = 24) (u : Nat) (hu : u < 24) (w : World) : (Instr.index 111 (.agg (csB F).toArray) (.int .i64 (u : Int))).run Try.prog w = .ok (.bool (bT F (u : Int))) w := by
  have h1 : (0 : Int) ≤ (u : Int) ∧ (u : Int) < 24 := by omega
  have hz : (Go.sizeOf 4).run Try.prog w = .ok 1 w := by kernel_rfl
  have ha : (Go.isAgg 4).run Try.prog w = .ok false w := by kernel_rfl
  unfold Instr.index csB
  simp [Sem.run_bind, asIntOf, run_underlying Try.underlying111, Result.andThen, h1, hz, ha, part, bT, hE, hu]

/-- The nodes that are reached from s, rising. -/
def seenFL (N : Int) (L : List Arc3) (s : Int) : List Int := if has1 N L s = true then seenL (distL N L s) N.toNat else []
theorem seenFL_len (N : Int) (L : List Arc3) (s : Int) : (seenFL N L s).length ≤ 1048576 := by
  unfold seenFL
  split
  · obtain ⟨ho, h0, h1⟩ := has1_of ‹_›
    have := (okB_elim ho).2.1
    have := seenL_len (distL N L s) N.toNat
    omega
  · simp

set_option maxRecDepth 100000 in
set_option maxHeartbeats 4000000 in
theorem implReachedFrom_any (N s : Int) (A : Option Addr) (n c : Nat) (L : List Arc3) (hn : n = L.length) (hc : n ≤ c) (w : World) (hm : n ≤ 1048576) (H1 : ArcsAt w w.heap.size A L) :
    Calls Try.prog 38 #[.agg #[.int .i64 N, .slice A n c], .int .i64 s] w (NumsMade (seenFL N L s) w) := by
  obtain ⟨i0, hi, hz0, hz1, hz2⟩ := info_parts infoInt
  have I0 := Lib.hid hi
  have I1 := Lib.hid hz0
  have I2 := Lib.hid hz1
  have I3 := Lib.hid hz2
  have K1 := Lib.hid H1
  have HN := Lib.hid hn
  clear H1 hn hi hz0 hz1 hz2
  cases hh : has1 N L s with
  | false =>
    have HH := Lib.hid hh
    clear hh
    go_enter Try.func38, Try.ntmps38
    go_wp2_with fail
    refine (hasNodes_1 N s A n c L HN.out (w.heap.size + 1) 1 _ (by omega) (K1.out.bl (by repeat' (first | exact Bl.refl _ | with_reducible assumption | with_reducible refine Bl.drew_ ?_ | with_reducible refine Bl.drewN_ ?_ _ | with_reducible refine Bl.alloc_ ?_ _ | with_reducible refine Bl.trans_ ?_ (by assumption) | with_reducible refine Bl.trans_ ?_ (And.left (by assumption))))) (by simp) (by simp [go_sem])).mono ?_
    rintro e w1 ⟨rfl, hb1⟩
    rw [HH.out]
    go_wp2
    go_ret
    exact ⟨_, rfl, by unfold seenFL; rw [if_neg (by rw [HH.out]; simp)]; exact OwnN.nil_ _ _, (by repeat' (first | exact Bl.refl _ | with_reducible assumption | with_reducible refine Bl.drew_ ?_ | with_reducible refine Bl.drewN_ ?_ _ | with_reducible refine Bl.alloc_ ?_ _ | with_reducible refine Bl.trans_ ?_ (by assumption) | with_reducible refine Bl.trans_ ?_ (And.left (by assumption))))⟩
  | true =>
    have HH := Lib.hid hh
    obtain ⟨ho, hs0, hs1⟩ := has1_of hh
    have hN24 := (okB_elim ho).2.1
    have HO := Lib.hid ho
    clear hh ho
    go_enter Try.func38, Try.ntmps38
    go_wp2_with fail
    refine (hasNodes_1 N s A n c L HN.out (w.heap.size + 1) 1 _ (by omega) (K1.out.bl (by repeat' (first | exact Bl.refl _ | with_reducible assumption | with_reducible refine Bl.drew_ ?_ | with_reducible refine Bl.drewN_ ?_ _ | with_reducible refine Bl.alloc_ ?_ _ | with_reducible refine Bl.trans_ ?_ (by assumption) | with_reducible refine Bl.trans_ ?_ (And.left (by assumption))))) (by simp) (by simp [go_sem])).mono ?_
    rintro e w1 ⟨rfl, hb1⟩
    rw [HH.out]
    have hx := (bcell hb1).1
    have q0 : w1.cell? ⟨w.heap.size, 0, none⟩ = some (.int .i64 N) := (hx _ _ (by simp; omega)).trans (by simp [go_sem])
    have q1 : w1.cell? ⟨w.heap.size, 1, none⟩ = some (.slice A n c) := (hx _ _ (by simp; omega)).trans (by simp [go_sem])
    have hbw : Bl w w1 := (((Bl.refl w).alloc_ _).alloc_ _).trans_ hb1
    clear hx hb1
    go_wp2_with fail
    refine (reachedFrom_any N s A n c L HN.out hc hm HO.out hs0 hs1 _ (K1.out.bl hbw)).mono ?_
    rintro e w2 ⟨F, rfl, hF, hFd, hb2⟩
    have FL := Lib.hid hF
    have FE := Lib.hid hFd
    have B2 := Lib.hid (hbw.trans_ hb2)
    have DL := Lib.hid (distL_len HO.out hs0 hs1)
    clear hF hFd hb2 hbw q0 q1
    obtain ⟨D, hD⟩ : ∃ D, D = distL N L s := ⟨_, rfl⟩
    have HDD := Lib.hid hD
    rw [← hD] at FE DL
    clear hD
    go_wp2_with fail
    go_loopw [5, 16] (fun v i wr => ∃ k : Nat, k ≤ 24 ∧ i = .int .i64 k ∧ OwnN wr w2.heap.size v (seenL D k) ∧ Bl w2 wr) (fun _ i _ => 24 - (intOf i).toNat)
    case atStart => exact ⟨0, by omega, rfl, OwnN.nil_ _ _, Bl.refl _⟩
    case round =>
      obtain ⟨k, hk, rfl, hO, hbl⟩ := hrel
      have OO := Lib.hid hO
      have BB := Lib.hid hbl
      have s0 := B2.out.size
      have s1 := hbl.size
      clear hO hbl
      by_cases hlt : k < 24
      · have hix := index24b F FL.out k hlt wr
        have EK := Lib.hid (FE.out (k : Int) (by omega))
        by_cases hd : 0 ≤ dAt D (k : Int)
        · have hbt := EK.out.2 hd
          have RY := Lib.hid (seenL_yes hd)
          rw [hbt] at hix
          obtain ⟨m, hm9⟩ : ∃ m, m = (seenL D k).length := ⟨_, rfl⟩
          have HM := Lib.hid hm9
          have hmk : m ≤ 24 := by rw [hm9]; exact Nat.le_trans (seenL_len D k) hk
          have OW := Lib.hid (show wr.ownsRow w2.heap.size 2 1 u5 m (csI (seenL D k)) from by rw [hm9]; exact OO.out)
          clear hm9 hbt
          go_wp2_with (at_builtin; refine wpList_append_any _ rfl (.tmp 21) (.tmp 23) _ rfl w2.heap.size 2 i0 _ 1 8 Try.underlying22 I0.out I1.out I2.out I3.out rfl (by decide) _ m (csI (seenL D k)) rfl (World.ownsRow.alloc OW.out _) (wr.heap.size + 1) (some ⟨wr.heap.size, 0, none⟩) 1 1 [.int .i64 (k : Int)] rfl ?c0 (by simp [Value.oneCell']) ?c3 ?c4 ?c5 ?_)
          case c0 =>
            refine ⟨rfl, fun _ => ⟨_, rfl, by show wr.heap.size < wr.heap.size + 1; omega, fun x u hj => ?_⟩⟩
            match x, hj with
            | 0, hj => simp at hj; subst hj; simp [Addr.add, go_sem]
            | (x + 1), hj => simp at hj
          case c3 => unfold maxLen; omega
          case c4 => omega
          case c5 => first | omega | (simp; omega)
          intro v' w8 hown' hgrow hwh
          have O8 := Lib.hid (OwnN.snoc (V := seenL D k) (x := (k : Int)) (n := m) HM.out hown')
          rw [← RY.out] at O8
          have hol := fun g h => (Owns.lt OO.out g h).1
          have B8 := Lib.hid (show Bl w2 w8 from (BB.out.alloc_ _).grown_ hgrow (fun g hg => hol g hg))
          clear hown' hgrow hwh hix
          go_wp2
          go_roundw
          case rel => exact ⟨k + 1, by omega, by go_num, O8.out, B8.out⟩
          case measure => simp [intOf]; omega
        · have hbt : bT F (k : Int) = false := by
            cases hb : bT F (k : Int) with
            | true => exact absurd (EK.out.1 hb) hd
            | false => rfl
          have RN := Lib.hid (seenL_no hd)
          rw [hbt] at hix
          go_wp2
          go_roundw
          case rel => exact ⟨k + 1, by omega, by go_num, by rw [RN.out]; exact OO.out, BB.out⟩
          case measure => simp [intOf]; omega
      · obtain rfl : k = 24 := by omega
        have HF := Lib.hid (show seenL D 24 = seenFL N L s from by
          unfold seenFL
          rw [if_pos HH.out, ← HDD.out]
          exact seenL_out DL.out (by omega))
        go_wp2
        go_ret
        exact ⟨_, rfl, by rw [← HF.out]; exact OO.out.low s0, B2.out.trans_ BB.out⟩

end Go.Proofs.Ytffjpfanmnkmgaa

set_option linter.unusedSimpArgs false
set_option linter.unusedVariables false
namespace Go.Proofs.Ytffjpfanmnkmgaa
open Go.RowKit

-- (l11Reach_any left out)

-- (specReachedFrom_any left out)

end Go.Proofs.Ytffjpfanmnkmgaa

set_option linter.unusedSimpArgs false
set_option linter.unusedVariables false
namespace Go.Proofs.Ytffjpfanmnkmgaa
open Go.RowKit

set_option maxRecDepth 100000 in
set_option maxHeartbeats 4000000 in
theorem l1Reverse_any (N : Int) (A : Option Addr) (n c : Nat) (L : List Arc3) (hn : n = L.length) (w : World) (hm : n ≤ 1048576) (H1 : ArcsAt w w.heap.size A L) :
    Calls Try.prog 152 #[.agg #[.int .i64 N, .slice A n c]] w (GraphMade1 N (revL L) w) := by
  have K1 := Lib.hid H1
  have HN := Lib.hid hn
  clear H1 hn
  have T0 := Lib.hid (show TS w (.cells #[.int .i64 N, .slice A n c] 38) (w.heap.size + 1) (w.heap.size + 2) N (.slice none 0 0) [] (((w.alloc (.cells #[.int .i64 N, .slice A n c] 38)).alloc (.cells #[.int .i64 0, .slice none 0 0] 38)).alloc (.cells #[.int .i64 N, .slice none 0 0] 38)) from by
    refine ⟨?_, ?_, OwnA.nil_ _ _, (by repeat' (first | exact Bl.refl _ | with_reducible assumption | with_reducible refine Bl.drew_ ?_ | with_reducible refine Bl.drewN_ ?_ _ | with_reducible refine Bl.alloc_ ?_ _ | with_reducible refine Bl.trans_ ?_ (by assumption) | with_reducible refine Bl.trans_ ?_ (And.left (by assumption)))), by omega, by omega⟩
    · have := Two.new ((w.alloc (.cells #[.int .i64 N, .slice A n c] 38)).alloc (.cells #[.int .i64 0, .slice none 0 0] 38)) (.int .i64 N) (.slice none 0 0)
      simpa using this
    · have := Two.new (w.alloc (.cells #[.int .i64 N, .slice A n c] 38)) (.int .i64 0) (.slice none 0 0)
      have := this.bl (Bl.alloc_ (Bl.refl _) (.cells #[.int .i64 N, .slice none 0 0] 38))
      simpa using this)
  go_enter Try.func152, Try.ntmps152
  go_wp2_with fail
  go_loopw [4] (fun i wr => ∃ (k : Nat) (q : Value), k ≤ n ∧ i = .int .i64 k ∧ TS w (.cells #[.int .i64 N, .slice A n c] 38) (w.heap.size + 1) (w.heap.size + 2) N q (revK L k) wr) (fun i _ => n - (intOf i).toNat)
  case atStart => exact ⟨0, _, by omega, rfl, T0.out⟩
  case round =>
    obtain ⟨k, q, hk, rfl, hT⟩ := hrel
    obtain ⟨h00, h01⟩ := box2 hT.bl
    obtain ⟨c0, c1, f0, f1⟩ := hT.box.facts
    obtain ⟨AQ, cq, rfl, hAQ, -⟩ := hT.own.shape
    have T := Lib.hid hT
    have Q := Lib.hid hAQ
    have hbw : Bl w wr := (Bl.alloc_ (Bl.refl w) _).trans_ hT.bl
    have HB := Lib.hid hbw
    clear hT hAQ T0
    by_cases hlt : k < n
    · have hkl : k < L.length := by have := HN.out; omega
      obtain ⟨g1, o1, rfl, hg1, hc1⟩ := K1.out (by omega)
      obtain ⟨p1, p2, p3⟩ := hc1 k hkl
      clear hc1
      rw [← (bcell hbw).1 _ _ hg1] at p1 p2 p3
      have RK := Lib.hid (revK_succ hkl)
      have hlen := revK_len L k (by omega)
      generalize hx : L[k].1 = x at p1
      generalize hy : L[k].2.1 = y at p2
      generalize hz : L[k].2.2 = z at p3
      have HE := Lib.hid (show turnA L[k] = (y, x, z) from by unfold turnA; rw [hx, hy, hz])
      clear hx hy hz hbw
      obtain ⟨l, hl⟩ : ∃ l, l = (revK L k).length := ⟨_, rfl⟩
      rw [← hl] at hlen c1 T
      have HL := Lib.hid hl
      clear hl
      have u1 : (0 : Int) ≤ (k : Int) := by omega
      have u2 : (k : Int) < (n : Int) := by omega
      go_wp2_with fail
      have TD := Lib.hid (T.out.bl_ (show Bl wr wr.drew from (by repeat' (first | exact Bl.refl _ | with_reducible assumption | with_reducible refine Bl.drew_ ?_ | with_reducible refine Bl.drewN_ ?_ _ | with_reducible refine Bl.alloc_ ?_ _ | with_reducible refine Bl.trans_ ?_ (by assumption) | with_reducible refine Bl.trans_ ?_ (And.left (by assumption))))))
      have e0 := (TD.out.box.facts).1
      go_still_tail 21, (by kernel_rfl)
      change wpList _ _ _ _ _ wr.drew
      go_wp2_with fail
      refine (l1Put_any y x z AQ l cq (revK L k) HL.out _ (by omega) (Q.out.bl (by repeat' (first | exact Bl.refl _ | with_reducible assumption | with_reducible refine Bl.drew_ ?_ | with_reducible refine Bl.drewN_ ?_ _ | with_reducible refine Bl.alloc_ ?_ _ | with_reducible refine Bl.trans_ ?_ (by assumption) | with_reducible refine Bl.trans_ ?_ (And.left (by assumption)))))).mono ?_
      rintro e w9 ⟨v4, rfl, ho, hb⟩
      obtain ⟨AB, cb, rfl, -, -⟩ := ho.shape
      have hlen2 := putL_len (y, x, z) (revK L k)
      have U4 := Lib.hid (TD.out.bl_ hb)
      have O4 := Lib.hid (U4.out.put (q2 := _) (L2 := putL (y, x, z) (revK L k)) (ho.low (World.rowIs.lt TD.out.box)))
      obtain ⟨d0, d1, k0, k1⟩ := U4.out.box.facts
      clear ho c0 c1 f0 f1 e0
      go_wp2
      go_roundw
      case rel => exact ⟨k + 1, _, by omega, by go_num, by rw [RK.out, HE.out]; exact O4.out⟩
      case measure => simp [intOf]; omega
    · obtain rfl : k = n := by omega
      have RA := Lib.hid (show revK L k = revL L from by rw [HN.out]; exact revK_all L)
      obtain ⟨r0, r1, fr0, fr1⟩ := T.out.res.facts
      go_wp2
      refine bodyPost_ret (v := .agg #[.int .i64 N, .slice AQ (revK L k).length cq]) (by simp [results, Try.results152, go_sem, r0, r1, fr0, fr1]) rfl ?_
      have := T.out.fin (.int .i64 N) (.slice AQ (revK L k).length cq)
      rw [RA.out] at this ⊢
      exact ⟨_, rfl, this.1, this.2⟩

-- (specReversed_any left out)

end Go.Proofs.Ytffjpfanmnkmgaa

set_option linter.unusedSimpArgs false
set_option linter.unusedVariables false
namespace Go.Proofs.Ytffjpfanmnkmgaa

/-- Are all of these nodes of N, no two alike? -/
def unB (N : Int) (V : List Int) : Bool := decide ((∀ v ∈ V, 0 ≤ v ∧ v < N) ∧ V.Nodup)
/-- Is the graph right, are all of these nodes of it, and no two alike? -/
def hasUB (N : Int) (L : List Arc3) (V : List Int) : Bool := okB N L && unB N V
theorem hasB_iff {N : Int} {L : List Arc3} {V : List Int} : hasB N L V = true ↔ okB N L = true ∧ ∀ v ∈ V, 0 ≤ v ∧ v < N := by
  unfold hasB
  rw [Bool.and_eq_true, List.all_eq_true]
  simp
theorem hasUB_no {N : Int} {L : List Arc3} {V : List Int} (h : hasB N L V = false) : hasUB N L V = false := by
  unfold hasUB unB
  rcases Bool.eq_false_or_eq_true (okB N L) with ho | ho
  · rw [ho, Bool.true_and, decide_eq_false_iff_not]
    intro hx
    have := hasB_iff.2 ⟨ho, hx.1⟩
    rw [this] at h
    exact absurd h (by simp)
  · rw [ho]; rfl
theorem hasUB_yes {N : Int} {L : List Arc3} {V : List Int} (h : hasB N L V = true) : hasUB N L V = decide V.Nodup := by
  obtain ⟨h1, h2⟩ := hasB_iff.1 h
  unfold hasUB unB
  rw [h1, Bool.true_and]
  by_cases hn : V.Nodup
  · rw [decide_eq_true hn]; exact decide_eq_true ⟨h2, hn⟩
  · rw [decide_eq_false hn]; exact decide_eq_false fun hx => hn hx.2
theorem hasUB_iff {N : Int} {L : List Arc3} {V : List Int} : hasUB N L V = true ↔ okB N L = true ∧ (∀ v ∈ V, 0 ≤ v ∧ v < N) ∧ V.Nodup := by
  unfold hasUB unB
  rw [Bool.and_eq_true, decide_eq_true_eq]

/-- Numbers as items. -/
def itV (V : List Int) : List It := V.map fun v => (0, v)
theorem told_itV {V : List Int} {v : Int} : toldB (itV V) v = decide (v ∈ V) := by
  rw [Bool.eq_iff_iff, toldB_iff, decide_eq_true_eq]
  constructor
  · rintro ⟨y, hy, rfl⟩
    obtain ⟨u, hu, rfl⟩ := List.mem_map.1 hy
    exact hu
  · intro h
    exact ⟨(0, v), List.mem_map.2 ⟨v, h, rfl⟩, rfl⟩
theorem itV_snoc (V : List Int) (v : Int) : itV (V ++ [v]) = itV V ++ [(0, v)] := by simp [itV]
theorem take_snocI {V : List Int} {j : Nat} (h : j < V.length) : V.take (j + 1) = V.take j ++ [V[j]] := by
  rw [List.take_succ_eq_append_getElem h]
theorem nodup_step {V : List Int} {j : Nat} (h : j < V.length) (hn : (V.take j).Nodup) (hv : V[j] ∉ V.take j) : (V.take (j + 1)).Nodup := by
  rw [take_snocI h, List.nodup_append]
  refine ⟨hn, by simp, fun a ha b hb => ?_⟩
  have : b = V[j] := by simpa using hb
  subst this
  intro e
  subst e
  exact hv ha
theorem nodup_hurt {V : List Int} {j : Nat} (h : j < V.length) (hv : V[j] ∈ V.take j) : ¬ V.Nodup := by
  intro hn
  obtain ⟨i, hi, e⟩ := List.mem_iff_getElem.1 hv
  rw [List.length_take] at hi
  rw [List.getElem_take] at e
  have := (List.nodup_iff_pairwise_ne.1 hn)
  exact (List.pairwise_iff_getElem.1 this) i j (by omega) h (by omega) e

/-- The lesser of a number and a distance that is there. -/
def minD (m d : Int) : Int := if 0 ≤ d then min m d else m
theorem minD_no {m d : Int} (h : d < 0) : minD m d = m := if_neg (by omega)
theorem minD_yes {m d : Int} (h : 0 ≤ d) : minD m d = min m d := if_pos h
/-- How far a node is from the nearest of some. -/
def nearV (N : Int) (L : List Arc3) (v : Int) (V : List Int) : Int := V.foldl (fun m s => minD m (dAt (distL N L s) v)) 24000
theorem nearV_nil (N : Int) (L : List Arc3) (v : Int) : nearV N L v [] = 24000 := rfl
theorem nearV_snoc (N : Int) (L : List Arc3) (v : Int) (V : List Int) (s : Int) : nearV N L v (V ++ [s]) = minD (nearV N L v V) (dAt (distL N L s) v) := by
  simp [nearV, List.foldl_append]
theorem nearV_step (N : Int) (L : List Arc3) (v : Int) {V : List Int} {j : Nat} (h : j < V.length) : nearV N L v (V.take (j + 1)) = minD (nearV N L v (V.take j)) (dAt (distL N L V[j]) v) := by
  rw [take_snocI h, nearV_snoc]
theorem nearV_bounds (N : Int) (L : List Arc3) (v : Int) (V : List Int) : 0 ≤ nearV N L v V ∧ nearV N L v V ≤ 24000 := by
  unfold nearV
  have h : ∀ (V : List Int) (m : Int), 0 ≤ m ∧ m ≤ 24000 → 0 ≤ V.foldl (fun m s => minD m (dAt (distL N L s) v)) m ∧ V.foldl (fun m s => minD m (dAt (distL N L s) v)) m ≤ 24000 := by
    intro V
    induction V with
    | nil => intro m hm; exact hm
    | cons a t ih =>
      intro m hm
      refine ih _ ?_
      show 0 ≤ minD m (dAt (distL N L a) v) ∧ minD m (dAt (distL N L a) v) ≤ 24000
      unfold minD
      split <;> omega
  exact h V 24000 (by omega)

/-- The array of the nearest behind some nodes that are told. -/
def minE (E : List Int) (Y : List It) : List Int := (List.range 24).map fun (i : Nat) => minD (E.getD i 0) (keyOf Y (i : Int))
theorem minE_len (E : List Int) (Y : List It) : (minE E Y).length = 24 := by simp [minE]
theorem minE_at {E : List Int} {Y : List It} {u : Nat} (h : u < (minE E Y).length) : (minE E Y)[u] = minD (E.getD u 0) (keyOf Y (u : Int)) := by simp [minE]
theorem minE_nil {E : List Int} (h : E.length = 24) : minE E [] = E := by
  refine List.ext_getElem (by rw [minE_len, h]) fun i h1 h2 => ?_
  rw [minE_at h1, minD_no (by rw [keyOf_no (by simp)]; omega)]
  simp [h2]
theorem minE_snoc {E : List Int} {Y : List It} {x : Int} {u : Nat} (hx : toldB Y (u : Int) = false) (h0 : 0 ≤ x) (hu : u < (minE E Y).length) : minE E (Y ++ [(x, (u : Int))]) = (minE E Y).set u (min (minE E Y)[u] x) := by
  refine List.ext_getElem (by simp [minE_len]) fun i h1 h2 => ?_
  rw [minE_at h1, List.getElem_set, keyOf_snoc (x := (x, (u : Int))) hx]
  by_cases e : u = i
  · subst e
    rw [if_pos rfl, if_pos rfl, minD_yes h0]
    congr 1
    rw [minE_at hu, minD_no (by rw [keyOf_no (toldB_no.1 hx)]; omega)]
  · rw [if_neg e, if_neg (by simp; omega), minE_at (by rw [minE_len] at h1 ⊢; exact h1)]
theorem minE_done {N : Int} {L : List Arc3} {s : Int} {V : List Int} {E : List Int} {Y : List It} (ho : okB N L = true) (hY : AllNear N L s Y)
    (hE : ∀ v : Nat, (v : Int) < N → E.getD v 0 = nearV N L (v : Int) V) : ∀ v : Nat, (v : Int) < N → (minE E Y).getD v 0 = nearV N L (v : Int) (V ++ [s]) := by
  intro v hv
  have hN := (okB_elim ho).2.1
  have hl : v < (minE E Y).length := by rw [minE_len]; omega
  have e : (minE E Y).getD v 0 = (minE E Y)[v] := by simp [hl]
  rw [e, minE_at hl, nearV_snoc, hE v hv]
  congr 1
  rw [← hY.keys (arcsIn_of_ok ho) hN, keysL_at (by omega) (by omega)]

/-- The first place of the greatest among the first k. -/
def topK (f : Nat → Int) : Nat → Nat
  | 0 => 0
  | k + 1 => if f (topK f k) < f k then k else topK f k
theorem topK_lt (f : Nat → Int) : ∀ k, 0 < k → topK f k < k
  | 0, h => absurd h (by omega)
  | k + 1, _ => by
    unfold topK
    split
    · omega
    · rcases Nat.eq_zero_or_pos k with rfl | hk
      · exact Nat.zero_lt_one
      · have := topK_lt f k hk; omega
theorem topK_le (f : Nat → Int) (k : Nat) : topK f k ≤ k := by
  rcases Nat.eq_zero_or_pos k with rfl | hk
  · exact Nat.le_refl _
  · exact Nat.le_of_lt (topK_lt f k hk)
theorem topK_yes {f : Nat → Int} {k : Nat} (h : f (topK f k) < f k) : topK f (k + 1) = k := if_pos h
theorem topK_no {f : Nat → Int} {k : Nat} (h : ¬ f (topK f k) < f k) : topK f (k + 1) = topK f k := if_neg h
theorem topK_max (f : Nat → Int) : ∀ k j, j < k → f j ≤ f (topK f k) ∧ (f j = f (topK f k) → topK f k ≤ j)
  | 0, j, h => absurd h (by omega)
  | k + 1, j, h => by
    by_cases hx : f (topK f k) < f k
    · rw [topK_yes hx]
      rcases Nat.lt_or_ge j k with hj | hj
      · have := (topK_max f k j hj).1
        exact ⟨by omega, fun e => by omega⟩
      · obtain rfl : j = k := by omega
        exact ⟨Int.le_refl _, fun _ => Nat.le_refl _⟩
    · rw [topK_no hx]
      rcases Nat.lt_or_ge j k with hj | hj
      · exact topK_max f k j hj
      · obtain rfl : j = k := by omega
        exact ⟨by omega, fun _ => topK_le f j⟩

/-- How far each node is from the nearest of V. -/
def nearF (N : Int) (L : List Arc3) (V : List Int) (k : Nat) : Int := nearV N L (k : Int) V
/-- The first node that is farthest from the nearest of V. -/
def farI (N : Int) (L : List Arc3) (V : List Int) : Int := if hasUB N L V = true then ((topK (nearF N L V) N.toNat : Nat) : Int) else -1

end Go.Proofs.Ytffjpfanmnkmgaa

set_option linter.unusedSimpArgs false
set_option linter.unusedVariables false
namespace Go.Proofs.Ytffjpfanmnkmgaa
open Go.RowKit

-- (hasUnlike_any left out)

set_option maxHeartbeats 400000 in
theorem l1Has_any (A : Option Addr) (c : Nat) (V : List Int) (n : Nat) (hn : n = V.length) (x : Int) (w : World) (hm : n ≤ 9223372036854775807) (H1 : IntsAt w w.heap.size A V) :
    Calls Try.prog 70 #[.slice A n c, .int .i64 x] w fun e w' => e = .returned (.bool (decide (x ∈ V))) ∧ Bl w w' := by
  have K1 := Lib.hid H1
  have HN := Lib.hid hn
  clear H1 hn
  go_enter Try.func70, Try.ntmps70
  go_wp2
  go_loopw [5] (fun i wr => ∃ k : Nat, k ≤ n ∧ i = .int .i64 k ∧ Bl w wr ∧ Hid (∀ j (h : j < V.length), j < k → V[j] ≠ x)) (fun i _ => n - (intOf i).toNat)
  case atStart => exact ⟨0, by omega, rfl, Bl.refl w, Lib.hid (fun j _ h => by omega)⟩
  case round =>
    obtain ⟨k, hk, rfl, hbl, hno⟩ := hrel
    by_cases hlt : k < n
    · have hkl : k < V.length := by have := HN.out; omega
      obtain ⟨g1, o1, rfl, hg1, hc1⟩ := K1.out.cell (by omega)
      have p1 := hc1 k hkl
      clear hc1
      rw [← (bcell hbl).1 _ _ hg1] at p1
      have HY := Lib.hid (fun h : V[k] ≠ x => (show ∀ j (h : j < V.length), j < k + 1 → V[j] ≠ x from fun j hj hjk => by
        by_cases e : j = k
        · subst e; exact h
        · exact hno.out j hj (by omega)))
      have HX := Lib.hid (fun h : V[k] = x => (show decide (x ∈ V) = true from by rw [decide_eq_true_eq, ← h]; exact List.getElem_mem hkl))
      generalize V[k] = y at p1 HY HX
      have i1 : (0 : Int) ≤ (k : Int) := by omega
      have i2 : (k : Int) < (n : Int) := by omega
      by_cases e : y = x
      · have b1 : (y == x) = true := by simpa using e
        have HZ := Lib.hid (HX.out e)
        clear e HY HX
        go_wp2
        go_ret
        exact ⟨ret_bool HZ.out.symm, hbl⟩
      · have b1 : (y == x) = false := by simpa using e
        have HZ := Lib.hid (HY.out e)
        clear e HY HX
        go_wp2
        go_roundw
        case rel => exact ⟨k + 1, by omega, by go_num, hbl, HZ⟩
        case measure => simp [intOf]; omega
    · have HZ := Lib.hid (show decide (x ∈ V) = false from by
        rw [decide_eq_false_iff_not]
        intro hx
        obtain ⟨j, hj, e⟩ := List.getElem_of_mem hx
        exact absurd e (hno.out j hj (by have := HN.out; omega)))
      go_wp2
      go_ret
      exact ⟨ret_bool HZ.out.symm, hbl⟩

-- (l6Nodes_any left out)

end Go.Proofs.Ytffjpfanmnkmgaa
