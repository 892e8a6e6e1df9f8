/-
  What is proved here: plain facts on a search that marks each node once. No conditions beyond those that each theorem states.
-/
import Derived.Test.YtoffkpkpdnjlnaaNS2
set_option linter.unusedSimpArgs false
set_option linter.unusedVariables false
namespace Go.Proofs.Ytoffkpkpdnjlnaa
open Go.RowKit

theorem countP_lt_ {α : Type} {p q : α → Bool} : ∀ {l : List α}, (∀ x ∈ l, p x = true → q x = true) → ∀ {x : α}, x ∈ l → q x = true → p x = false → l.countP p < l.countP q
  | [], _, x, hx, _, _ => by simp at hx
  | y :: l, h, x, hx, hq, hp => by
    have hle : l.countP p ≤ l.countP q := List.countP_mono_left fun z hz => h z (by simp [hz])
    rcases List.mem_cons.1 hx with rfl | hx
    · rw [List.countP_cons_of_neg (by simp [hp]), List.countP_cons_of_pos hq]
      omega
    · have ih := countP_lt_ (fun z hz => h z (by simp [hz])) hx hq hp
      by_cases hy : p y = true
      · rw [List.countP_cons_of_pos hy, List.countP_cons_of_pos (h y (by simp) hy)]
        omega
      · rw [List.countP_cons_of_neg hy]
        have := List.countP_cons (p := q) (l := l) (a := y)
        rw [this]
        split <;> omega

/-- Is the node marked? -/
def bT (F : List Bool) (u : Int) : Bool := F.getD u.toNat false
def falses (F : List Bool) : Nat := (List.range 24).countP fun i => !F.getD i false
theorem bT_set {F : List Bool} {v : Nat} (hv : v < F.length) {u : Int} (hu : 0 ≤ u) : bT (F.set v true) u = if u = (v : Int) then true else bT F u := by
  unfold bT
  rw [List.getD_eq_getElem?_getD, List.getD_eq_getElem?_getD, List.getElem?_set]
  by_cases e : u = (v : Int)
  · subst e
    simp [hv]
  · rw [if_neg (by omega), if_neg e]
/-- What a search makes of the marks, D being how far all are from the start. -/
structure Grow (L : List (Int × Int × Int)) (D : List Int) (F F' : List Bool) : Prop where
  mono : ∀ u, 0 ≤ u → bT F u = true → bT F' u = true
  sound : ∀ u, 0 ≤ u → bT F' u = true → bT F u = true ∨ 0 ≤ dAt D u
  shut : ∀ a ∈ L, bT F' a.1 = true → bT F a.1 = false → bT F' a.2.1 = true
theorem Grow.refl (L : List (Int × Int × Int)) (D : List Int) (F : List Bool) : Grow L D F F := ⟨fun _ _ h => h, fun _ _ h => .inl h, fun a _ h h' => by rw [h] at h'; cases h'⟩
theorem Grow.trans {N : Int} {L : List (Int × Int × Int)} {D : List Int} {F G H : List Bool} (hL : ArcsIn N L) (h : Grow L D F G) (k : Grow L D G H) : Grow L D F H := by
  refine ⟨fun u h0 hu => k.mono u h0 (h.mono u h0 hu), fun u h0 hu => ?_, fun a ha h1 h2 => ?_⟩
  · rcases k.sound u h0 hu with h1 | h1
    · exact h.sound u h0 h1
    · exact .inr h1
  · have hin := hL a ha
    cases hg : bT G a.1 with
    | true => exact k.mono _ hin.2.2.1 (h.shut a ha hg h2)
    | false => exact k.shut a ha h1 hg
theorem falses_mono {F G : List Bool} (h : ∀ u, 0 ≤ u → bT F u = true → bT G u = true) : falses G ≤ falses F :=
  List.countP_mono_left fun i hi hg => by
    have := h (i : Int) (by omega)
    simp only [bT, Int.toNat_natCast] at this
    cases hf : F.getD i false with
    | true => rw [this hf] at hg; cases hg
    | false => rfl
theorem falses_set {F : List Bool} {v : Nat} (hl : F.length = 24) (hv : v < 24) (hf : bT F v = false) : falses (F.set v true) < falses F := by
  refine countP_lt_ (x := v) (fun i hi hg => ?_) (by simpa using hv) ?_ ?_
  · have := bT_set (F := F) (v := v) (by omega) (u := (i : Int)) (by omega)
    simp only [bT, Int.toNat_natCast] at this
    rw [this] at hg
    split at hg
    · cases hg
    · exact hg
  · simp only [bT, Int.toNat_natCast] at hf
    rw [hf]; rfl
  · have := bT_set (F := F) (v := v) (by omega) (u := (v : Int)) (by omega)
    simp only [bT, Int.toNat_natCast] at this
    rw [this]
    simp
/-- A node is marked, then all to which its arcs lead are searched from. -/
theorem Grow.node {N : Int} {L : List (Int × Int × Int)} {D : List Int} {F F' : List Bool} {v : Nat} (hL : ArcsIn N L) (hl : F.length = 24) (hv : v < 24) (hr : 0 ≤ dAt D v) (h : Grow L D (F.set v true) F') (ha : ∀ a ∈ L, a.1 = (v : Int) → bT F' a.2.1 = true) : Grow L D F F' ∧ bT F' v = true := by
  have hs := fun u (h0 : 0 ≤ u) => bT_set (F := F) (v := v) (by omega) h0
  have hvt : bT F' v = true := h.mono _ (by omega) (by rw [hs _ (by omega), if_pos rfl])
  refine ⟨⟨fun u h0 hu => h.mono u h0 (by rw [hs u h0]; split <;> simp [hu]), fun u h0 hu => ?_, fun a hL' h1 h2 => ?_⟩, hvt⟩
  · rcases h.sound u h0 hu with h1 | h1
    · rw [hs u h0] at h1
      by_cases e : u = (v : Int)
      · rw [e]; exact .inr hr
      · rw [if_neg e] at h1
        exact .inl h1
    · exact .inr h1
  · by_cases e : a.1 = (v : Int)
    · exact ha a hL' e
    · refine h.shut a hL' h1 ?_
      rw [hs _ (hL a hL').1, if_neg e]
      exact h2
/-- Behind the search from the start just the nodes with a distance are marked. -/
theorem grow_all {N s : Int} {L : List (Int × Int × Int)} {F : List Bool} (hL : ArcsIn N L) (hN : N ≤ 24) (h0 : 0 ≤ s) (h1 : s < N) (h : Grow L (distL N L s) (List.replicate 24 false) F) (hs : bT F s = true) (u : Int) (hu0 : 0 ≤ u) : bT F u = true ↔ 0 ≤ dAt (distL N L s) u := by
  have hf : ∀ x, bT (List.replicate 24 false) x = false := fun x => by
    unfold bT
    rw [List.getD_eq_getElem?_getD, List.getElem?_replicate]
    split <;> rfl
  have hD := distL_is hL hN h0 h1
  constructor
  · intro hx
    rcases h.sound u hu0 hx with h2 | h2
    · rw [hf] at h2; cases h2
    · exact h2
  · have key : ∀ (n : Nat) (u : Int), 0 ≤ u → u < N → 0 ≤ dAt (distL N L s) u → (dAt (distL N L s) u).toNat < n → bT F u = true := by
      intro n
      induction n with
      | zero => intro u _ _ _ h; omega
      | succ n ih =>
        intro u hu0 hu1 hd hn
        rcases hD.back u hu0 hu1 hd with rfl | ⟨a, ha, rfl, hb1, hb2⟩
        · exact hs
        · have hin := hL a ha
          exact h.shut a ha (ih a.1 hin.1 hin.2.1 hb1 (by omega)) (hf _)
    intro hd
    have hu1 : u < N := by
      rcases Int.lt_or_le u N with h | h
      · exact h
      · have := dAt_out (D := distL N L s) (v := u) (by rw [hD.len]; omega)
        omega
    exact key _ u hu0 hu1 hd (Nat.lt_succ_self _)

/-- The nodes with a distance, rising. -/
def reachL (D : List Int) (k : Nat) : List Int := ((List.range k).filter fun (i : Nat) => decide (0 ≤ dAt D (i : Int))).map fun (i : Nat) => (i : Int)
theorem reachL_yes {D : List Int} {k : Nat} (h : 0 ≤ dAt D (k : Int)) : reachL D (k + 1) = reachL D k ++ [(k : Int)] := by
  unfold reachL
  rw [List.range_succ, List.filter_append, List.map_append]
  simp [h]
theorem reachL_no {D : List Int} {k : Nat} (h : ¬ 0 ≤ dAt D (k : Int)) : reachL D (k + 1) = reachL D k := by
  unfold reachL
  rw [List.range_succ, List.filter_append, List.map_append]
  simp [h]
theorem reachL_len (D : List Int) (k : Nat) : (reachL D k).length ≤ k := by
  unfold reachL
  rw [List.length_map]
  have := List.length_filter_le (fun (i : Nat) => decide (0 ≤ dAt D (i : Int))) (List.range k)
  simpa using this
theorem reachL_out {D : List Int} {q k : Nat} (h : D.length = q) (hk : q ≤ k) : reachL D k = reachL D q := by
  induction k with
  | zero => obtain rfl : q = 0 := by omega
            rfl
  | succ k ih =>
    by_cases e : q = k + 1
    · rw [e]
    · rw [reachL_no (by rw [dAt_out (by omega)]; omega)]
      exact ih (by omega)

end Go.Proofs.Ytoffkpkpdnjlnaa
