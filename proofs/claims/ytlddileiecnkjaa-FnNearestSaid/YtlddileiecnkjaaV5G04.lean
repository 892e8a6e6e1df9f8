/-
  What is proved here: plain facts on arcs in order: an arc that is put in, taken out, or weighed anew; how far nodes are from one, on lists: there is one such list of numbers alone, and relaxing arcs comes to it; plain facts on arcs that are turned, and on the first of the shortest paths; the small functions of the code that ask for nodes, for the arcs from a node and for the weight of an arc. No conditions beyond those that each theorem states.
-/
import Derived.Test.YtlddileiecnkjaaV5F1
import Derived.Test.YtlddileiecnkjaaV5G03
import Derived.Test.YtlddileiecnkjaaV5G02
set_option linter.unusedSimpArgs false
set_option linter.unusedVariables false
namespace Go.Proofs.Ytlddileiecnkjaa
open Go.RowKit

/-- Is an arc ahead of another one? -/
def AheadP (a b : Arc3) : Prop := aheadB a.1 a.2.1 b.1 b.2.1 = true

theorem okB_intro {n : Int} {L : List Arc3} (h1 : 1 ≤ n) (h2 : n ≤ 24) (h3 : L.length ≤ 150) (ha : ∀ a ∈ L, arcB n a.1 a.2.1 a.2.2 = true) (hp : L.Pairwise AheadP) : okB n L = true := by
  have hs := List.pairwise_iff_getElem.1 hp
  have step : ∀ k (h : k < L.length), stepB n L k h = true := fun k h => by
    unfold stepB
    rw [ha _ (List.getElem_mem h), Bool.true_and]
    split
    · rename_i h0
      exact hs (k - 1) k (by omega) h (by omega)
    · rfl
  have first : ∀ m, firstB n L m = true := fun m => by
    induction m with
    | zero => rfl
    | succ m ih =>
      unfold firstB
      rw [ih, Bool.true_and]
      split
      · exact step _ _
      · rfl
  rw [okB_yes (first _)]
  simp only [decide_eq_true_eq]
  exact ⟨h1, h2, h3⟩
theorem okB_elim {n : Int} {L : List Arc3} (h : okB n L = true) : 1 ≤ n ∧ n ≤ 24 ∧ L.length ≤ 150 ∧ (∀ a ∈ L, arcB n a.1 a.2.1 a.2.2 = true) ∧ L.Pairwise AheadP := by
  have hs := sorted_of_ok h
  have h' := h
  unfold okB at h'
  rw [Bool.and_eq_true, decide_eq_true_eq] at h'
  refine ⟨h'.1.1, h'.1.2.1, h'.1.2.2, fun a hmem => ?_, List.pairwise_iff_getElem.2 fun i j hi hj hij => hs i j hij hj⟩
  obtain ⟨k, hk, rfl⟩ := List.mem_iff_getElem.1 hmem
  have := firstB_all h'.2 k hk hk
  unfold stepB at this
  rw [Bool.and_eq_true] at this
  exact this.1

theorem fold_lo (a : Arc3) : ∀ (X R : List Arc3), (∀ x ∈ X, aheadB x.1 x.2.1 a.1 a.2.1 = true) → X.foldl (putStep a) (R, false) = (R ++ X, false)
  | [], R, _ => by simp
  | x :: X, R, h => by
    have hx := h x (by simp)
    have hne : ((x.1 != a.1) || (x.2.1 != a.2.1)) = true := by
      simp only [aheadB, decide_eq_true_eq] at hx
      simp only [Bool.or_eq_true, bne_iff_ne]
      omega
    rw [List.foldl_cons, show putStep a (R, false) x = (R ++ [x], false) from by simp [putStep, hx, hne], fold_lo a X _ fun y hy => h y (by simp [hy])]
    simp
theorem fold_hi (a : Arc3) : ∀ (Y R : List Arc3), (∀ y ∈ Y, isEnds a.1 a.2.1 y = false) → Y.foldl (putStep a) (R, true) = (R ++ Y, true)
  | [], R, _ => by simp
  | y :: Y, R, h => by
    have hy := h y (by simp)
    have hne : ((y.1 != a.1) || (y.2.1 != a.2.1)) = true := by
      unfold isEnds at hy
      cases h1 : (y.1 == a.1) <;> cases h2 : (y.2.1 == a.2.1) <;> simp_all
    rw [List.foldl_cons, show putStep a (R, true) y = (R ++ [y], true) from by simp [putStep, hne], fold_hi a Y _ fun z hz => h z (by simp [hz])]
    simp
theorem putL_mid (a : Arc3) (X Y : List Arc3) (hX : ∀ x ∈ X, aheadB x.1 x.2.1 a.1 a.2.1 = true) (hY : ∀ y ∈ Y, aheadB y.1 y.2.1 a.1 a.2.1 = false) (hE : ∀ y ∈ Y, isEnds a.1 a.2.1 y = false) : putL a (X ++ Y) = X ++ [a] ++ Y := by
  have e : putSt a (X ++ Y) (X ++ Y).length = (X ++ Y).foldl (putStep a) ([], false) := by
    unfold putSt
    rw [List.take_length]
  unfold putL
  rw [e, List.foldl_append, fold_lo a X [] hX]
  cases Y with
  | nil => simp
  | cons y Y =>
    have hy := hY y (by simp)
    have hne : ((y.1 != a.1) || (y.2.1 != a.2.1)) = true := by
      have h := hE y (by simp)
      unfold isEnds at h
      cases h1 : (y.1 == a.1) <;> cases h2 : (y.2.1 == a.2.1) <;> simp_all
    rw [List.foldl_cons, show putStep a ([] ++ X, false) y = (X ++ [a] ++ [y], true) from by simp [putStep, hy, hne], fold_hi a Y _ fun z hz => hE z (by simp [hz])]
    simp

section
variable {N u v x : Int} {L : List Arc3} {p : Nat} {f : Bool}
theorem ahead_total {a b c d : Int} (h : aheadB a b c d = false) (he : ¬ (a = c ∧ b = d)) : aheadB c d a b = true := by
  simp only [aheadB, decide_eq_true_eq, decide_eq_false_iff_not] at *
  omega
end

end Go.Proofs.Ytlddileiecnkjaa

set_option linter.unusedSimpArgs false
set_option linter.unusedVariables false
namespace Go.Proofs.Ytlddileiecnkjaa

/-- The number of a node in a list; -1: there is none. -/
def dAt (D : List Int) (v : Int) : Int := D.getD v.toNat (-1)
/-- All arcs are between nodes, with weights from 1 to 1000. -/
def ArcsIn (N : Int) (L : List (Int × Int × Int)) : Prop := ∀ a ∈ L, 0 ≤ a.1 ∧ a.1 < N ∧ 0 ≤ a.2.1 ∧ a.2.1 < N ∧ 1 ≤ a.2.2 ∧ a.2.2 ≤ 1000
/-- D tells how far each node is from s. -/
structure IsDist (N : Int) (L : List (Int × Int × Int)) (s : Int) (D : List Int) : Prop where
  len : D.length = N.toNat
  low : ∀ v, -1 ≤ dAt D v
  start : dAt D s = 0
  arc : ∀ a ∈ L, 0 ≤ dAt D a.1 → 0 ≤ dAt D a.2.1 ∧ dAt D a.2.1 ≤ dAt D a.1 + a.2.2
  back : ∀ v, 0 ≤ v → v < N → 0 ≤ dAt D v → v = s ∨ ∃ a ∈ L, a.2.1 = v ∧ 0 ≤ dAt D a.1 ∧ dAt D v = dAt D a.1 + a.2.2

theorem IsDist.le_aux {N : Int} {L : List (Int × Int × Int)} {s : Int} {D E : List Int} (hL : ArcsIn N L) (hD : IsDist N L s D) (hE : IsDist N L s E) :
    ∀ (n : Nat) (v : Int), 0 ≤ v → v < N → (dAt D v).toNat = n → 0 ≤ dAt D v → 0 ≤ dAt E v ∧ dAt E v ≤ dAt D v := by
  intro n
  induction n using Nat.strongRecOn with
  | ind n ih =>
    intro v h0 h1 hn hp
    rcases hD.back v h0 h1 hp with rfl | ⟨a, ha, rfl, hu, he⟩
    · rw [hE.start, hD.start]; omega
    · obtain ⟨a0, a1, a2, a3, a4, a5⟩ := hL a ha
      obtain ⟨x, y⟩ := ih (dAt D a.1).toNat (by omega) a.1 a0 a1 rfl hu
      obtain ⟨z, t⟩ := hE.arc a ha x
      omega
theorem IsDist.uniq {N : Int} {L : List (Int × Int × Int)} {s : Int} {D E : List Int} (hL : ArcsIn N L) (hD : IsDist N L s D) (hE : IsDist N L s E) : D = E := by
  refine List.ext_getElem (by rw [hD.len, hE.len]) fun i h1 h2 => ?_
  have e1 : D[i] = dAt D (i : Int) := by simp [dAt, h1]
  have e2 : E[i] = dAt E (i : Int) := by simp [dAt, h2]
  have hi : (i : Int) < N := by have := hD.len; omega
  rw [e1, e2]
  have l1 := hD.low i
  have l2 := hE.low i
  by_cases p : 0 ≤ dAt D i
  · obtain ⟨x, y⟩ := IsDist.le_aux hL hD hE _ i (by omega) hi rfl p
    obtain ⟨z, t⟩ := IsDist.le_aux hL hE hD _ i (by omega) hi rfl x
    omega
  · by_cases q : 0 ≤ dAt E i
    · obtain ⟨z, t⟩ := IsDist.le_aux hL hE hD _ i (by omega) hi rfl q
      omega
    · omega

theorem dAt_set {D : List Int} {k : Int} {x v : Int} (hk : 0 ≤ k) (hk' : k.toNat < D.length) (hv : 0 ≤ v) : dAt (D.set k.toNat x) v = if v = k then x else dAt D v := by
  unfold dAt
  simp only [List.getD_eq_getElem?_getD, List.getElem?_set]
  by_cases e : v = k
  · subst e; simp [hk']
  · have : ¬ k.toNat = v.toNat := by omega
    simp [e, this]
theorem dAt_out {D : List Int} {v : Int} (h : D.length ≤ v.toNat) : dAt D v = -1 := by
  simp [dAt, List.getD_eq_getElem?_getD, List.getElem?_eq_none h]
theorem dAt_neg {D : List Int} {v : Int} (h : v ≤ 0) : dAt D v = dAt D 0 := by
  unfold dAt
  rw [show v.toNat = 0 from by omega]
  rfl

/-- A sum over a list. -/
def sumF (f : Int → Nat) : List Int → Nat
  | [] => 0
  | a :: l => f a + sumF f l
theorem sumF_set (f : Int → Nat) (y : Int) : ∀ (D : List Int) (k : Nat) (h : k < D.length), sumF f (D.set k y) + f D[k] = sumF f D + f y
  | a :: l, 0, _ => by simp [sumF]; omega
  | a :: l, k + 1, h => by
    have := sumF_set f y l k (by simpa using h)
    simp only [List.set_cons_succ, sumF, List.getElem_cons_succ]
    omega
theorem sumF_le (f : Int → Nat) (m : Nat) : ∀ (D : List Int), (∀ x, f x ≤ m) → sumF f D ≤ m * D.length
  | [], _ => by simp [sumF]
  | a :: l, h => by
    have h1 := sumF_le f m l h
    have h2 := h a
    simp only [sumF, List.length_cons, Nat.mul_add, Nat.mul_one]
    omega
/-- Is it a distance? -/
def cntF (x : Int) : Nat := if x < 0 then 0 else 1
def potF (x : Int) : Nat := if x < 0 then 24001 else x.toNat

/-- What holds of D as long as arcs are relaxed. -/
structure Rel (N : Int) (L : List (Int × Int × Int)) (s : Int) (D : List Int) : Prop where
  len : D.length = N.toNat
  low : ∀ v, -1 ≤ dAt D v
  start : dAt D s = 0
  back : ∀ v, 0 ≤ v → v < N → 0 ≤ dAt D v → v = s ∨ ∃ a ∈ L, a.2.1 = v ∧ 0 ≤ dAt D a.1 ∧ dAt D a.1 + a.2.2 ≤ dAt D v
  top : ∀ v, dAt D v + 1000 ≤ 1000 * (sumF cntF D : Nat)
/-- An arc that makes its end nearer. -/
def nearer (D : List Int) (a : Int × Int × Int) : Bool := decide (0 ≤ dAt D a.1 ∧ (dAt D a.2.1 < 0 ∨ dAt D a.1 + a.2.2 < dAt D a.2.1))
def relax (D : List Int) (a : Int × Int × Int) : List Int := if nearer D a = true then D.set a.2.1.toNat (dAt D a.1 + a.2.2) else D

theorem Rel.bound {N : Int} {L : List (Int × Int × Int)} {s : Int} {D : List Int} (h : Rel N L s D) (hN : N ≤ 24) (v : Int) : dAt D v ≤ 23000 := by
  have h1 := h.top v
  have h2 := sumF_le cntF 1 D (fun x => by unfold cntF; split <;> omega)
  have h3 := h.len
  omega

theorem Rel.step {N : Int} {L : List (Int × Int × Int)} {s : Int} {D : List Int} (hL : ArcsIn N L) (hN : N ≤ 24) (h : Rel N L s D) {a : Int × Int × Int} (ha : a ∈ L) (hn : nearer D a = true) :
    Rel N L s (D.set a.2.1.toNat (dAt D a.1 + a.2.2)) ∧ sumF potF (D.set a.2.1.toNat (dAt D a.1 + a.2.2)) < sumF potF D := by
  obtain ⟨a0, a1, a2, a3, a4, a5⟩ := hL a ha
  simp only [nearer, decide_eq_true_eq] at hn
  obtain ⟨hu, hv⟩ := hn
  have hk : a.2.1.toNat < D.length := by rw [h.len]; omega
  have hb := h.bound hN a.1
  have ht := h.top a.1
  have hDk : D[a.2.1.toNat] = dAt D a.2.1 := by simp [dAt, hk]
  have hc := sumF_set cntF (dAt D a.1 + a.2.2) D _ hk
  have hp := sumF_set potF (dAt D a.1 + a.2.2) D _ hk
  rw [hDk] at hc hp
  have hc1 : cntF (dAt D a.1 + a.2.2) = 1 := by unfold cntF; rw [if_neg (by omega)]
  have hp1 : potF (dAt D a.1 + a.2.2) = (dAt D a.1 + a.2.2).toNat := by unfold potF; rw [if_neg (by omega)]
  have hset : ∀ v, 0 ≤ v → dAt (D.set a.2.1.toNat (dAt D a.1 + a.2.2)) v = if v = a.2.1 then dAt D a.1 + a.2.2 else dAt D v := fun v hv => dAt_set a2 hk hv
  have hne : a.1 ≠ a.2.1 := by
    intro e
    rw [← e] at hv
    omega
  have hst := h.start
  have hcnt : sumF cntF D ≤ sumF cntF (D.set a.2.1.toNat (dAt D a.1 + a.2.2)) ∧ (dAt D a.2.1 < 0 → sumF cntF D + 1 ≤ sumF cntF (D.set a.2.1.toNat (dAt D a.1 + a.2.2))) := by
    have : cntF (dAt D a.2.1) ≤ 1 := by unfold cntF; split <;> omega
    refine ⟨by omega, fun hlt => ?_⟩
    have : cntF (dAt D a.2.1) = 0 := by unfold cntF; rw [if_pos hlt]
    omega
  refine ⟨⟨by simpa using h.len, fun v => ?_, ?_, fun v h0 h1 hp => ?_, fun v => ?_⟩, ?_⟩
  · by_cases hv0 : 0 ≤ v
    · rw [hset v hv0]
      split
      · omega
      · exact h.low v
    · rw [dAt_neg (by omega), hset 0 (by omega)]
      split
      · omega
      · exact h.low 0
  · by_cases hs : 0 ≤ s
    · rw [hset s hs, if_neg]
      · exact hst
      · rintro rfl
        omega
    · rw [dAt_neg (by omega), hset 0 (by omega), if_neg]
      · rw [← dAt_neg (v := s) (by omega)]; exact hst
      · intro e
        rw [dAt_neg (v := s) (by omega), e] at hst
        omega
  · rw [hset v h0] at hp ⊢
    by_cases e : v = a.2.1
    · subst e
      rw [if_pos rfl] at hp ⊢
      exact .inr ⟨a, ha, rfl, by rw [hset a.1 a0, if_neg hne]; exact hu, by rw [hset a.1 a0, if_neg hne]; omega⟩
    · rw [if_neg e] at hp ⊢
      rcases h.back v h0 h1 hp with h' | ⟨b, hb', e1, e2, e3⟩
      · exact .inl h'
      · obtain ⟨b0, b1, b2, b3, b4, b5⟩ := hL b hb'
        refine .inr ⟨b, hb', e1, ?_, ?_⟩
        · rw [hset b.1 b0]; split <;> omega
        · rw [hset b.1 b0]
          split
          · rename_i e4
            rw [e4] at e2 e3
            omega
          · exact e3
  · have hlow := h.low a.2.1
    have goal : ∀ v, 0 ≤ v → dAt (D.set a.2.1.toNat (dAt D a.1 + a.2.2)) v + 1000 ≤ 1000 * (sumF cntF (D.set a.2.1.toNat (dAt D a.1 + a.2.2)) : Nat) := by
      intro v hv0
      rw [hset v hv0]
      split
      · rcases hv with hv | hv
        · have := hcnt.2 hv
          omega
        · have := h.top a.2.1
          have := hcnt.1
          omega
      · have := h.top v
        have := hcnt.1
        omega
    by_cases hv0 : 0 ≤ v
    · exact goal v hv0
    · rw [dAt_neg (by omega)]
      exact goal 0 (by omega)
  · have : potF (dAt D a.2.1) = if dAt D a.2.1 < 0 then 24001 else (dAt D a.2.1).toNat := rfl
    rcases hv with hv | hv
    · rw [if_pos hv] at this
      omega
    · rw [if_neg (by omega)] at this
      omega
theorem Rel.relax {N : Int} {L : List (Int × Int × Int)} {s : Int} {D : List Int} (hL : ArcsIn N L) (hN : N ≤ 24) (h : Rel N L s D) {a : Int × Int × Int} (ha : a ∈ L) : Rel N L s (relax D a) := by
  unfold Proofs.Ytlddileiecnkjaa.relax
  split
  · exact (h.step hL hN ha ‹_›).1
  · exact h
/-- Where no arc makes its end nearer, D tells how far all nodes are. -/
theorem Rel.done {N : Int} {L : List (Int × Int × Int)} {s : Int} {D : List Int} (hL : ArcsIn N L) (h : Rel N L s D) (hd : ∀ a ∈ L, nearer D a = false) : IsDist N L s D := by
  have harc : ∀ a ∈ L, 0 ≤ dAt D a.1 → 0 ≤ dAt D a.2.1 ∧ dAt D a.2.1 ≤ dAt D a.1 + a.2.2 := by
    intro a ha hu
    have := hd a ha
    simp only [nearer, decide_eq_false_iff_not] at this
    omega
  refine ⟨h.len, h.low, h.start, harc, fun v h0 h1 hp => ?_⟩
  rcases h.back v h0 h1 hp with h' | ⟨a, ha, e1, e2, e3⟩
  · exact .inl h'
  · have := harc a ha e2
    rw [e1] at this
    exact .inr ⟨a, ha, e1, e2, by omega⟩

/-- Nothing is known but that s is reached. -/
def startD (N s : Int) : List Int := (List.replicate N.toNat (-1)).set s.toNat 0
theorem dAt_start {N s v : Int} (h0 : 0 ≤ s) (h1 : s < N) (hv : 0 ≤ v) : dAt (startD N s) v = if v = s then 0 else -1 := by
  unfold startD
  rw [dAt_set h0 (by simp; omega) hv]
  have : dAt (List.replicate N.toNat (-1)) v = -1 := by
    unfold dAt
    simp only [List.getD_eq_getElem?_getD, List.getElem?_replicate]
    split <;> rfl
  rw [this]
theorem Rel.start_ {N s : Int} {L : List (Int × Int × Int)} (h0 : 0 ≤ s) (h1 : s < N) : Rel N L s (startD N s) := by
  have hc : sumF cntF (startD N s) = 1 := by
    unfold startD
    have h := sumF_set cntF 0 (List.replicate N.toNat (-1)) s.toNat (by simp; omega)
    have h2 : ∀ n, sumF cntF (List.replicate n (-1)) = 0 := by
      intro n
      induction n with
      | zero => rfl
      | succ n ih => simp [List.replicate_succ, sumF, ih, cntF]
    rw [h2] at h
    simp only [List.getElem_replicate] at h
    have e1 : cntF (-1) = 0 := rfl
    have e2 : cntF 0 = 1 := rfl
    omega
  have hd : ∀ v, dAt (startD N s) v = -1 ∨ dAt (startD N s) v = 0 := by
    intro v
    by_cases hv : 0 ≤ v
    · rw [dAt_start h0 h1 hv]; split <;> simp
    · rw [dAt_neg (by omega), dAt_start h0 h1 (by omega)]; split <;> simp
  refine ⟨by simp [startD], fun v => ?_, by rw [dAt_start h0 h1 h0, if_pos rfl], fun v hv hvN hp => ?_, fun v => ?_⟩
  · rcases hd v with h | h <;> omega
  · rw [dAt_start h0 h1 hv] at hp
    split at hp
    · exact .inl ‹_›
    · omega
  · rw [hc]
    rcases hd v with h | h <;> omega

/-- Relax all arcs, again and again. -/
def bfL (L : List (Int × Int × Int)) : Nat → List Int → List Int
  | 0, D => D
  | n + 1, D => match L.find? (nearer D) with
    | none => D
    | some a => bfL L n (relax D a)
theorem bfL_done {N : Int} {L : List (Int × Int × Int)} {s : Int} (hL : ArcsIn N L) (hN : N ≤ 24) : ∀ (n : Nat) (D : List Int), Rel N L s D → sumF potF D < n → IsDist N L s (bfL L n D)
  | 0, D, _, h => absurd h (by omega)
  | n + 1, D, h, hp => by
    unfold bfL
    cases hf : L.find? (nearer D) with
    | none =>
      refine h.done hL fun a ha => ?_
      have := List.find?_eq_none.1 hf a ha
      simpa using this
    | some a =>
      have h1 := List.mem_of_find?_eq_some hf
      have h2 := List.find?_some hf
      obtain ⟨x, y⟩ := h.step hL hN h1 h2
      have e : relax D a = D.set a.2.1.toNat (dAt D a.1 + a.2.2) := by unfold relax; rw [if_pos h2]
      refine bfL_done hL hN n _ (by rw [e]; exact x) (by rw [e]; omega)
/-- How far all nodes are from s. -/
def distL (N : Int) (L : List (Int × Int × Int)) (s : Int) : List Int := bfL L 576025 (startD N s)
theorem distL_is {N : Int} {L : List (Int × Int × Int)} {s : Int} (hL : ArcsIn N L) (hN : N ≤ 24) (h0 : 0 ≤ s) (h1 : s < N) : IsDist N L s (distL N L s) := by
  refine bfL_done hL hN _ _ (Rel.start_ h0 h1) ?_
  have h := sumF_set potF 0 (List.replicate N.toNat (-1)) s.toNat (by simp; omega)
  have h2 : ∀ n, sumF potF (List.replicate n (-1)) = 24001 * n := by
    intro n
    induction n with
    | zero => rfl
    | succ n ih => simp [List.replicate_succ, sumF, ih, potF]; omega
  rw [h2] at h
  simp only [List.getElem_replicate] at h
  have e1 : potF (-1) = 24001 := rfl
  have e2 : potF 0 = 0 := rfl
  rw [e1, e2] at h
  show sumF potF ((List.replicate N.toNat (-1)).set s.toNat 0) < 576025
  have : N.toNat ≤ 24 := by omega
  omega
theorem distL_of {N : Int} {L : List (Int × Int × Int)} {s : Int} {D : List Int} (hL : ArcsIn N L) (hN : N ≤ 24) (h0 : 0 ≤ s) (h1 : s < N) (h : IsDist N L s D) : D = distL N L s :=
  h.uniq hL (distL_is hL hN h0 h1)
/-- No node is farther than 23000. -/
theorem IsDist.top {N : Int} {L : List (Int × Int × Int)} {s : Int} {D : List Int} (hL : ArcsIn N L) (hN : N ≤ 24) (h0 : 0 ≤ s) (h1 : s < N) (h : IsDist N L s D) (v : Int) : dAt D v ≤ 23000 := by
  have hb : ∀ (n : Nat) (D : List Int), Rel N L s D → (∀ v, dAt (bfL L n D) v ≤ 23000) := by
    intro n
    induction n with
    | zero => exact fun D h v => h.bound hN v
    | succ n ih =>
      intro D h v
      unfold bfL
      cases hf : L.find? (nearer D) with
      | none => exact h.bound hN v
      | some a => exact ih _ (h.relax hL hN (List.mem_of_find?_eq_some hf)) v
  rw [distL_of hL hN h0 h1 h]
  exact hb _ _ (Rel.start_ h0 h1) v

end Go.Proofs.Ytlddileiecnkjaa

set_option linter.unusedSimpArgs false
set_option linter.unusedVariables false
namespace Go.Proofs.Ytlddileiecnkjaa
open Go.RowKit

theorem arcsIn_of_ok {N : Int} {L : List Arc3} (h : okB N L = true) : ArcsIn N L := fun a ha => by
  have := (okB_elim h).2.2.2.1 a ha
  simp only [arcB, decide_eq_true_eq] at this
  omega
/-- An arc the other way round. -/
def turnA (a : Arc3) : Arc3 := (a.2.1, a.1, a.2.2)
/-- The arcs the other way round, in order. -/
def revL (L : List Arc3) : List Arc3 := L.foldl (fun acc a => putL (turnA a) acc) []

theorem putL_sorted (a : Arc3) (L : List Arc3) (hs : L.Pairwise AheadP) (hE : ∀ b ∈ L, isEnds a.1 a.2.1 b = false) : (putL a L).Pairwise AheadP ∧ (putL a L).Perm (a :: L) := by
  have key : ∀ (M : List Arc3), M.Pairwise AheadP → ∃ X Y, M = X ++ Y ∧ (∀ x ∈ X, aheadB x.1 x.2.1 a.1 a.2.1 = true) ∧ ∀ y ∈ Y, aheadB y.1 y.2.1 a.1 a.2.1 = false := by
    intro M
    induction M with
    | nil => exact fun _ => ⟨[], [], rfl, by simp, by simp⟩
    | cons b M ih =>
      intro hM
      rw [List.pairwise_cons] at hM
      cases hb : aheadB b.1 b.2.1 a.1 a.2.1 with
      | true =>
        obtain ⟨X, Y, rfl, hX, hY⟩ := ih hM.2
        refine ⟨b :: X, Y, rfl, fun x hx => ?_, hY⟩
        rcases List.mem_cons.1 hx with rfl | hx
        · exact hb
        · exact hX x hx
      | false =>
        refine ⟨[], b :: M, rfl, by simp, fun y hy => ?_⟩
        rcases List.mem_cons.1 hy with rfl | hy
        · exact hb
        · cases hya : aheadB y.1 y.2.1 a.1 a.2.1 with
          | false => rfl
          | true =>
            have := ahead_trans (hM.1 y hy) hya
            rw [hb] at this
            cases this
  obtain ⟨X, Y, rfl, hX, hY⟩ := key L hs
  rw [putL_mid a X Y hX hY fun y hy => hE y (by simp [hy])]
  obtain ⟨h1, h2, h3⟩ := List.pairwise_append.1 hs
  constructor
  · rw [List.append_assoc]
    refine List.pairwise_append.2 ⟨h1, List.pairwise_append.2 ⟨List.pairwise_singleton _ _, h2, fun u hu y hy => ?_⟩, fun x hx z hz => ?_⟩
    · simp only [List.mem_singleton] at hu
      subst hu
      have h5 := hE y (by simp [hy])
      exact ahead_total (hY y hy) fun hc => by rw [isEnds_iff.2 hc] at h5; cases h5
    · rw [List.mem_append] at hz
      rcases hz with hz | hz
      · simp only [List.mem_singleton] at hz
        subst hz
        exact hX x hx
      · exact h3 x hx z hz
  · rw [List.append_assoc]
    exact List.perm_middle
theorem rev_fold : ∀ (K acc : List Arc3), (acc ++ K.map turnA).Pairwise (fun a b => ¬ (a.1 = b.1 ∧ a.2.1 = b.2.1)) → acc.Pairwise AheadP →
    (K.foldl (fun acc a => putL (turnA a) acc) acc).Pairwise AheadP ∧ (K.foldl (fun acc a => putL (turnA a) acc) acc).Perm (acc ++ K.map turnA)
  | [], acc, _, hs => ⟨hs, by simp⟩
  | a :: K, acc, hd, hs => by
    have hE : ∀ b ∈ acc, isEnds (turnA a).1 (turnA a).2.1 b = false := fun b hb => by
      cases he : isEnds (turnA a).1 (turnA a).2.1 b with
      | false => rfl
      | true => exact absurd (isEnds_iff.1 he) ((List.pairwise_append.1 hd).2.2 b hb (turnA a) (by simp))
    obtain ⟨h1, h2⟩ := putL_sorted (turnA a) acc hs hE
    have hp : (putL (turnA a) acc ++ K.map turnA).Perm (acc ++ (a :: K).map turnA) := by
      refine (h2.append_right _).trans ?_
      simp only [List.map_cons, List.cons_append]
      exact List.perm_middle.symm
    obtain ⟨h3, h4⟩ := rev_fold K (putL (turnA a) acc) (hp.symm.pairwise hd (fun {x y} h => fun hc => h ⟨hc.1.symm, hc.2.symm⟩)) h1
    exact ⟨h3, h4.trans hp⟩
theorem ahead_ne {a b : Arc3} (h : AheadP a b) : ¬ (a.1 = b.1 ∧ a.2.1 = b.2.1) := by
  unfold AheadP at h
  simp only [aheadB, decide_eq_true_eq] at h
  omega
theorem revL_sorted {L : List Arc3} (hs : L.Pairwise AheadP) : (revL L).Pairwise AheadP ∧ (revL L).Perm (L.map turnA) := by
  have := rev_fold L [] (by
    rw [List.nil_append, List.pairwise_map]
    exact hs.imp fun {a b} h => fun hc => ahead_ne h ⟨hc.2, hc.1⟩) List.Pairwise.nil
  simpa [revL] using this
theorem sorted_uniq : ∀ {X Y : List Arc3}, X.Pairwise AheadP → Y.Pairwise AheadP → X.Perm Y → X = Y
  | [], Y, _, _, h => (List.nil_perm.1 h).symm
  | a :: X, [], _, _, h => absurd h (by simp)
  | a :: X, b :: Y, hX, hY, h => by
    have e : a = b := by
      rcases List.mem_cons.1 (h.mem_iff.1 (List.mem_cons_self : a ∈ a :: X)) with e | e
      · exact e
      · rcases List.mem_cons.1 (h.mem_iff.2 (List.mem_cons_self : b ∈ b :: Y)) with e' | e'
        · exact e'.symm
        · have h1 := (List.pairwise_cons.1 hX).1 b e'
          have h2 := (List.pairwise_cons.1 hY).1 a e
          have h3 := ahead_trans h1 h2
          rw [ahead_irrefl] at h3
          cases h3
    subst e
    rw [sorted_uniq (List.pairwise_cons.1 hX).2 (List.pairwise_cons.1 hY).2 h.cons_inv]
theorem revL_mem {L : List Arc3} (hs : L.Pairwise AheadP) {b : Arc3} : b ∈ revL L ↔ turnA b ∈ L := by
  rw [(revL_sorted hs).2.mem_iff, List.mem_map]
  constructor
  · rintro ⟨a, ha, rfl⟩
    exact ha
  · exact fun h => ⟨turnA b, h, rfl⟩
theorem revL_len {L : List Arc3} (hs : L.Pairwise AheadP) : (revL L).length = L.length := by
  rw [(revL_sorted hs).2.length_eq, List.length_map]
theorem revL_ok {N : Int} {L : List Arc3} (h : okB N L = true) : okB N (revL L) = true := by
  obtain ⟨h1, h2, h3, h4, h5⟩ := okB_elim h
  refine okB_intro h1 h2 (by rw [revL_len h5]; exact h3) (fun a ha => ?_) (revL_sorted h5).1
  have := h4 _ ((revL_mem h5).1 ha)
  unfold turnA at this
  simp only [arcB, decide_eq_true_eq] at this ⊢
  omega
theorem revL_revL {N : Int} {L : List Arc3} (h : okB N L = true) : revL (revL L) = L := by
  obtain ⟨h1, h2, h3, h4, h5⟩ := okB_elim h
  obtain ⟨r1, r2⟩ := revL_sorted h5
  obtain ⟨q1, q2⟩ := revL_sorted r1
  refine sorted_uniq q1 h5 (q2.trans ((r2.map turnA).trans ?_))
  rw [List.map_map]
  have : (turnA ∘ turnA) = id := by funext a; rfl
  rw [this, List.map_id]


end Go.Proofs.Ytlddileiecnkjaa

set_option linter.unusedSimpArgs false
set_option linter.unusedVariables false
namespace Go.Proofs.Ytlddileiecnkjaa
open Go.RowKit

/-- Is the graph right, and are all of these nodes of it? -/
def hasB (N : Int) (L : List Arc3) (V : List Int) : Bool := okB N L && V.all fun v => decide (0 ≤ v ∧ v < N)
set_option maxHeartbeats 1000000 in
theorem hasNodes_any (N : Int) (A : Option Addr) (n c : Nat) (L : List Arc3) (hn : n = L.length) (A2 : Option Addr) (k c2 : Nat) (V : List Int) (hk : k = V.length) (w : World) (hm : n ≤ 9223372036854775807) (hkm : k ≤ 1048576) (H1 : ArcsAt w w.heap.size A L) (H2 : CellsAt w w.heap.size A2 (csI V)) :
    Calls Try.prog 78 #[.agg #[.int .i64 N, .slice A n c], .slice A2 k c2] w fun e w' => e = .returned (.bool (hasB N L V)) ∧ Bl w w' := by
  have K1 := Lib.hid H1
  have K2 := Lib.hid H2
  have HN := Lib.hid hn
  have HK := Lib.hid hk
  clear H1 H2 hn hk
  by_cases ho : okB N L = true
  · have HO := Lib.hid ho
    clear ho
    go_enter Try.func78, Try.ntmps78
    go_wp2_with fail
    refine (implOk_any N A n c L HN.out _ (by omega) (K1.out.bl (by repeat' (first | exact Bl.refl _ | with_reducible assumption | with_reducible refine Bl.drew_ ?_ | with_reducible refine Bl.drewN_ ?_ _ | with_reducible refine Bl.alloc_ ?_ _ | with_reducible refine Bl.trans_ ?_ (by assumption) | with_reducible refine Bl.trans_ ?_ (And.left (by assumption)))))).mono ?_
    rintro e w1 ⟨rfl, hb1⟩
    rw [HO.out]
    obtain ⟨q0, q1⟩ := box2 hb1
    go_wp2_with fail
    clear q0 q1
    go_loopw [12] (fun i wr => ∃ j : Nat, j ≤ k ∧ i = .int .i64 j ∧ Bl (w.alloc (.cells #[.int .i64 N, .slice A n c] 33)) wr ∧ ∀ t (h : t < V.length), t < j → 0 ≤ V[t] ∧ V[t] < N) (fun i _ => k - (intOf i).toNat)
    case atStart => exact ⟨0, by omega, rfl, hb1, fun t h h' => absurd h' (by omega)⟩
    case round =>
      obtain ⟨j, hj, rfl, hbl, hno⟩ := hrel
      have NO := Lib.hid hno
      clear hno
      obtain ⟨q0, q1⟩ := box2 hbl
      have hbw : Bl w wr := (Bl.alloc_ (Bl.refl w) _).trans_ hbl
      by_cases hlt : j < k
      · have hjl : j < V.length := by have := HK.out; omega
        obtain ⟨g2, o2, rfl, hg2, hc2⟩ := K2.out (by rw [csI_len]; omega)
        have p1 := hc2 j (by rw [csI_len]; exact hjl)
        rw [csI_at] at p1
        clear hc2
        rw [← (bcell hbw).1 _ _ hg2] at p1
        generalize hx : V[j] = x at p1
        have HX := Lib.hid hx
        clear hx
        by_cases hin : 0 ≤ x ∧ x < N
        · have hd : decide (0 ≤ x ∧ x < N) = true := by simpa using hin
          have HIN := Lib.hid hin
          clear hin
          go_wp2_with fail
          refine (isNode_any N x _ _).mono ?_
          rintro e w3 ⟨rfl, hb3⟩
          rw [hd]
          clear q0 q1
          go_wp2
          go_roundw
          case rel =>
            refine ⟨j + 1, by omega, by go_num, (by repeat' (first | exact Bl.refl _ | with_reducible assumption | with_reducible refine Bl.drew_ ?_ | with_reducible refine Bl.drewN_ ?_ _ | with_reducible refine Bl.alloc_ ?_ _ | with_reducible refine Bl.trans_ ?_ (by assumption) | with_reducible refine Bl.trans_ ?_ (And.left (by assumption)))), fun t h ht => ?_⟩
            rcases Nat.lt_or_ge t j with h' | h'
            · exact NO.out t h h'
            · obtain rfl : t = j := by omega
              rw [HX.out]
              exact HIN.out
          case measure => simp [intOf]; omega
        · have hd : decide (0 ≤ x ∧ x < N) = false := by simpa using hin
          have HIN := Lib.hid hin
          clear hin
          go_wp2_with fail
          refine (isNode_any N x _ _).mono ?_
          rintro e w3 ⟨rfl, hb3⟩
          rw [hd]
          clear q0 q1
          go_wp2
          go_ret
          refine ⟨ret_bool ?_, (by repeat' (first | exact Bl.refl _ | with_reducible assumption | with_reducible refine Bl.drew_ ?_ | with_reducible refine Bl.drewN_ ?_ _ | with_reducible refine Bl.alloc_ ?_ _ | with_reducible refine Bl.trans_ ?_ (by assumption) | with_reducible refine Bl.trans_ ?_ (And.left (by assumption))))⟩
          unfold hasB
          rw [HO.out, Bool.true_and]
          symm
          rw [List.all_eq_false]
          exact ⟨V[j], List.getElem_mem hjl, by rw [HX.out]; simpa using HIN.out⟩
      · go_wp2
        go_ret
        refine ⟨ret_bool ?_, (by repeat' (first | exact Bl.refl _ | with_reducible assumption | with_reducible refine Bl.drew_ ?_ | with_reducible refine Bl.drewN_ ?_ _ | with_reducible refine Bl.alloc_ ?_ _ | with_reducible refine Bl.trans_ ?_ (by assumption) | with_reducible refine Bl.trans_ ?_ (And.left (by assumption))))⟩
        unfold hasB
        rw [HO.out, Bool.true_and]
        symm
        rw [List.all_eq_true]
        intro v hv
        obtain ⟨t, ht, rfl⟩ := List.mem_iff_getElem.1 hv
        simpa using NO.out t ht (by have := HK.out; omega)
  · have ho' : okB N L = false := by simpa using ho
    have HO := Lib.hid ho'
    clear ho ho'
    go_enter Try.func78, Try.ntmps78
    go_wp2_with fail
    refine (implOk_any N A n c L HN.out _ (by omega) (K1.out.bl (by repeat' (first | exact Bl.refl _ | with_reducible assumption | with_reducible refine Bl.drew_ ?_ | with_reducible refine Bl.drewN_ ?_ _ | with_reducible refine Bl.alloc_ ?_ _ | with_reducible refine Bl.trans_ ?_ (by assumption) | with_reducible refine Bl.trans_ ?_ (And.left (by assumption)))))).mono ?_
    rintro e w1 ⟨rfl, hb1⟩
    rw [HO.out]
    go_wp2
    go_ret
    exact ⟨ret_bool (by unfold hasB; rw [HO.out, Bool.false_and]), (by repeat' (first | exact Bl.refl _ | with_reducible assumption | with_reducible refine Bl.drew_ ?_ | with_reducible refine Bl.drewN_ ?_ _ | with_reducible refine Bl.alloc_ ?_ _ | with_reducible refine Bl.trans_ ?_ (by assumption) | with_reducible refine Bl.trans_ ?_ (And.left (by assumption))))⟩

/-- hasNodes with one node, as it is called. -/
def has1 (N : Int) (L : List Arc3) (v : Int) : Bool := okB N L && decide (0 ≤ v ∧ v < N)
def has2 (N : Int) (L : List Arc3) (u v : Int) : Bool := okB N L && decide ((0 ≤ u ∧ u < N) ∧ (0 ≤ v ∧ v < N))
theorem hasB_1 (N : Int) (L : List Arc3) (v : Int) : hasB N L [v] = has1 N L v := by simp [hasB, has1]
theorem hasB_2 (N : Int) (L : List Arc3) (u v : Int) : hasB N L [u, v] = has2 N L u v := by
  simp only [hasB, has2, List.all_cons, List.all_nil, Bool.and_true]
  congr 1
  rw [Bool.eq_iff_iff]
  simp
theorem hasNodes_1 (N v : Int) (A : Option Addr) (n c : Nat) (L : List Arc3) (hn : n = L.length) (g c2 : Nat) (w : World) (hm : n ≤ 9223372036854775807) (H1 : ArcsAt w w.heap.size A L) (hg : g < w.heap.size) (h0 : w.cell? ⟨g, 0, none⟩ = some (.int .i64 v)) :
    Calls Try.prog 78 #[.agg #[.int .i64 N, .slice A n c], .slice (some ⟨g, 0, none⟩) 1 c2] w fun e w' => e = .returned (.bool (has1 N L v)) ∧ Bl w w' := by
  rw [← hasB_1]
  refine hasNodes_any N A n c L hn _ 1 c2 [v] rfl w hm (by omega) H1 (fun _ => ⟨g, 0, rfl, hg, fun j hj => ?_⟩)
  obtain rfl : j = 0 := by simpa [csI] using hj
  simpa [csI] using h0
theorem hasNodes_2 (N u v : Int) (A : Option Addr) (n c : Nat) (L : List Arc3) (hn : n = L.length) (g c2 : Nat) (w : World) (hm : n ≤ 9223372036854775807) (H1 : ArcsAt w w.heap.size A L) (hg : g < w.heap.size) (h0 : w.cell? ⟨g, 0, none⟩ = some (.int .i64 u)) (h1 : w.cell? ⟨g, 1, none⟩ = some (.int .i64 v)) :
    Calls Try.prog 78 #[.agg #[.int .i64 N, .slice A n c], .slice (some ⟨g, 0, none⟩) 2 c2] w fun e w' => e = .returned (.bool (has2 N L u v)) ∧ Bl w w' := by
  rw [← hasB_2]
  refine hasNodes_any N A n c L hn _ 2 c2 [u, v] rfl w hm (by omega) H1 (fun _ => ⟨g, 0, rfl, hg, fun j hj => ?_⟩)
  have hj' : j < 2 := by simpa [csI] using hj
  match j, hj' with
  | 0, _ => simpa [csI] using h0
  | 1, _ => simpa [csI] using h1



theorem from_cut {L : List Arc3} {v : Int} {p q : Nat} {f f' : Bool} (ho : ∀ a ∈ L, 0 ≤ a.2.1) (h : BsAt L v 0 p f) (h' : BsAt L (v + 1) 0 q f') : p ≤ q ∧ q ≤ L.length ∧ (L.take q).drop p = fromL v L := by
  obtain ⟨hp, hlo, hhi, -⟩ := h
  obtain ⟨hq, klo, khi, -⟩ := h'
  have hpq : p ≤ q := by
    rcases Nat.lt_or_ge q p with h | h
    · have h1 := hlo q (by omega) h
      have h2 := khi q (by omega) (Nat.le_refl _)
      simp only [aheadB, decide_eq_true_eq, decide_eq_false_iff_not] at h1 h2
      omega
    · exact h
  refine ⟨hpq, hq, ?_⟩
  have e : L = L.take p ++ ((L.take q).drop p ++ L.drop q) := by
    have h1 : (L.take q).take p ++ (L.take q).drop p = L.take q := List.take_append_drop _ _
    rw [List.take_take, Nat.min_eq_left hpq] at h1
    rw [← List.append_assoc, h1, List.take_append_drop]
  have e1 : (L.take p).filter (fun a => a.1 == v) = [] := by
    rw [List.filter_eq_nil_iff]
    intro a ha
    obtain ⟨k, hk, rfl⟩ := List.mem_iff_getElem.1 ha
    rw [List.length_take] at hk
    rw [List.getElem_take]
    have h1 := hlo k (by omega) (by omega)
    have h2 := ho L[k] (List.getElem_mem _)
    simp only [aheadB, decide_eq_true_eq] at h1
    simp
    omega
  have e2 : (L.drop q).filter (fun a => a.1 == v) = [] := by
    rw [List.filter_eq_nil_iff]
    intro a ha
    obtain ⟨k, hk, rfl⟩ := List.mem_iff_getElem.1 ha
    rw [List.length_drop] at hk
    rw [List.getElem_drop]
    have h1 := khi (q + k) (by omega) (by omega)
    have h2 := ho L[q + k] (List.getElem_mem _)
    simp only [aheadB, decide_eq_false_iff_not] at h1
    simp
    omega
  have e3 : ((L.take q).drop p).filter (fun a => a.1 == v) = (L.take q).drop p := by
    rw [List.filter_eq_self]
    intro a ha
    obtain ⟨k, hk, rfl⟩ := List.mem_iff_getElem.1 ha
    rw [List.length_drop, List.length_take] at hk
    rw [List.getElem_drop, List.getElem_take]
    have h1 := hhi (p + k) (by omega) (by omega)
    have h2 := klo (p + k) (by omega) (by omega)
    have h3 := ho L[p + k] (List.getElem_mem _)
    simp only [aheadB, decide_eq_false_iff_not, decide_eq_true_eq] at h1 h2
    simp
    omega
  unfold fromL
  conv => rhs; rw [e]
  rw [List.filter_append, List.filter_append, e1, e2, e3]
  simp

theorem ret_slice {A : Option Addr} {n m c : Nat} (h : n = m) : Ending.returned (.slice A n c) = .returned (.slice A m c) := by rw [h]
/-- A part of a list of arcs is left, where it lay. -/
def PartOf (w : World) (A : Option Addr) (M : List Arc3) (e : Ending) (w' : World) : Prop := ∃ A' c', e = .returned (.slice A' M.length c') ∧ M.length ≤ c' ∧ ArcsAt w' w.heap.size A' M ∧ blockOf A' = blockOf A ∧ Bl w w'

set_option maxHeartbeats 1000000 in
theorem arcsFrom_any (N v : Int) (A : Option Addr) (n c : Nat) (L : List Arc3) (hn : n = L.length) (w : World) (hm : n ≤ 1048576) (hc : n ≤ c) (hs : SortedA L) (ho : ∀ a ∈ L, 0 ≤ a.2.1) (hv0 : -1000000 ≤ v) (hv : v ≤ 1000000) (H1 : ArcsAt w w.heap.size A L) :
    Calls Try.prog 154 #[.agg #[.int .i64 N, .slice A n c], .int .i64 v] w (PartOf w A (fromL v L)) := by
  have K1 := Lib.hid H1
  have HN := Lib.hid hn
  have HS := Lib.hid hs
  have HO := Lib.hid ho
  clear H1 hn hs ho
  go_enter Try.func154, Try.ntmps154
  go_wp2_with fail
  refine (placeOf_any N v 0 A n c L HN.out _ hm HS.out (K1.out.bl (by repeat' (first | exact Bl.refl _ | with_reducible assumption | with_reducible refine Bl.drew_ ?_ | with_reducible refine Bl.drewN_ ?_ _ | with_reducible refine Bl.alloc_ ?_ _ | with_reducible refine Bl.trans_ ?_ (by assumption) | with_reducible refine Bl.trans_ ?_ (And.left (by assumption)))))).mono ?_
  rintro e w1 ⟨p, f, hp, rfl, hb1⟩
  have HP := Lib.hid hp
  clear hp
  obtain ⟨q0, q1⟩ := box2 hb1
  go_wp2_with fail
  refine (placeOf_any N (v + 1) 0 A n c L HN.out _ hm HS.out (K1.out.bl (by repeat' (first | exact Bl.refl _ | with_reducible assumption | with_reducible refine Bl.drew_ ?_ | with_reducible refine Bl.drewN_ ?_ _ | with_reducible refine Bl.alloc_ ?_ _ | with_reducible refine Bl.trans_ ?_ (by assumption) | with_reducible refine Bl.trans_ ?_ (And.left (by assumption)))))).mono ?_
  rintro e w2 ⟨q, f', hq, rfl, hb2⟩
  obtain ⟨hpq, hql, hcut⟩ := from_cut HO.out HP.out hq
  have CUT := Lib.hid hcut
  have hb2' := hb1.trans_ hb2
  clear hq hcut q0 q1
  obtain ⟨q0, q1⟩ := box2 hb2'
  have hqn : q ≤ n := by have := HN.out; omega
  clear hql
  have hz0 : (0 : Int) ≤ (p : Int) := by omega
  have hz1 : (p : Int) ≤ (q : Int) := by omega
  have hz2 : (q : Int) ≤ (c : Int) := by omega
  have HL := Lib.hid (show q - p = (fromL v L).length from by rw [← CUT.out, List.length_drop, List.length_take]; have := HN.out; omega)
  have hbw : Bl w w2 := (Bl.alloc_ (Bl.refl w) _).trans_ hb2'
  go_wp2_with fail
  · go_ret
    exact ⟨A, 0, ret_slice HL.out, by rw [← HL.out]; omega, fun h0 => absurd h0 (by rw [← HL.out]; omega), rfl, hbw⟩
  · go_ret
    refine ⟨_, c - p, ret_slice HL.out, by rw [← HL.out]; omega, fun h0 => ?_, by cases A <;> simp [blockOf, block_of_add], hbw⟩
    rw [← HL.out] at h0
    obtain ⟨g1, o1, rfl, hg1, hc1⟩ := K1.out (by have := HN.out; omega)
    refine ⟨g1, o1 + p * 3, by simp [Addr.add], hg1, fun k hk => ?_⟩
    have hk' : k < q - p := by rw [HL.out]; exact hk
    have e : (fromL v L)[k] = L[p + k]'(by have := HN.out; omega) := by
      simp only [← CUT.out, List.getElem_drop, List.getElem_take]
    obtain ⟨c1, c2, c3⟩ := hc1 (p + k) (by have := HN.out; omega)
    have hb := (bcell hbw).1
    rw [e, hb _ _ hg1, hb _ _ hg1, hb _ _ hg1, show o1 + p * 3 + k * 3 = o1 + (p + k) * 3 from by omega]
    exact ⟨c1, c2, c3⟩

end Go.Proofs.Ytlddileiecnkjaa
