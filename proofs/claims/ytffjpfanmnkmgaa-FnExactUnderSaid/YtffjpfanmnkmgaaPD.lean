/-
  What is proved here: how far nodes are from one, on lists: there is one such list of numbers alone, and relaxing arcs comes to it. No conditions beyond those that each theorem states.
-/
set_option linter.unusedSimpArgs false
set_option linter.unusedVariables false
namespace Go.Proofs.Ytffjpfanmnkmgaa

/-- The number of a node in a list; -1: there is none. -/
def dAt (D : List Int) (v : Int) : Int := D.getD v.toNat (-1)
/-- All arcs are between nodes, with weights from 1 to 1000. -/
def ArcsIn (N : Int) (L : List (Int × Int × Int)) : Prop := ∀ a ∈ L, 0 ≤ a.1 ∧ a.1 < N ∧ 0 ≤ a.2.1 ∧ a.2.1 < N ∧ 1 ≤ a.2.2 ∧ a.2.2 ≤ 1000
/-- D tells how far each node is from s. -/
structure IsDist (N : Int) (L : List (Int × Int × Int)) (s : Int) (D : List Int) : Prop where
  len : D.length = N.toNat
  low : ∀ v, -1 ≤ dAt D v
  start : dAt D s = 0
  arc : ∀ a ∈ L, 0 ≤ dAt D a.1 → 0 ≤ dAt D a.2.1 ∧ dAt D a.2.1 ≤ dAt D a.1 + a.2.2
  back : ∀ v, 0 ≤ v → v < N → 0 ≤ dAt D v → v = s ∨ ∃ a ∈ L, a.2.1 = v ∧ 0 ≤ dAt D a.1 ∧ dAt D v = dAt D a.1 + a.2.2

theorem IsDist.le_aux {N : Int} {L : List (Int × Int × Int)} {s : Int} {D E : List Int} (hL : ArcsIn N L) (hD : IsDist N L s D) (hE : IsDist N L s E) :
    ∀ (n : Nat) (v : Int), 0 ≤ v → v < N → (dAt D v).toNat = n → 0 ≤ dAt D v → 0 ≤ dAt E v ∧ dAt E v ≤ dAt D v := by
  intro n
  induction n using Nat.strongRecOn with
  | ind n ih =>
    intro v h0 h1 hn hp
    rcases hD.back v h0 h1 hp with rfl | ⟨a, ha, rfl, hu, he⟩
    · rw [hE.start, hD.start]; omega
    · obtain ⟨a0, a1, a2, a3, a4, a5⟩ := hL a ha
      obtain ⟨x, y⟩ := ih (dAt D a.1).toNat (by omega) a.1 a0 a1 rfl hu
      obtain ⟨z, t⟩ := hE.arc a ha x
      omega
theorem IsDist.uniq {N : Int} {L : List (Int × Int × Int)} {s : Int} {D E : List Int} (hL : ArcsIn N L) (hD : IsDist N L s D) (hE : IsDist N L s E) : D = E := by
  refine List.ext_getElem (by rw [hD.len, hE.len]) fun i h1 h2 => ?_
  have e1 : D[i] = dAt D (i : Int) := by simp [dAt, h1]
  have e2 : E[i] = dAt E (i : Int) := by simp [dAt, h2]
  have hi : (i : Int) < N := by have := hD.len; omega
  rw [e1, e2]
  have l1 := hD.low i
  have l2 := hE.low i
  by_cases p : 0 ≤ dAt D i
  · obtain ⟨x, y⟩ := IsDist.le_aux hL hD hE _ i (by omega) hi rfl p
    obtain ⟨z, t⟩ := IsDist.le_aux hL hE hD _ i (by omega) hi rfl x
    omega
  · by_cases q : 0 ≤ dAt E i
    · obtain ⟨z, t⟩ := IsDist.le_aux hL hE hD _ i (by omega) hi rfl q
      omega
    · omega

theorem dAt_set {D : List Int} {k : Int} {x v : Int} (hk : 0 ≤ k) (hk' : k.toNat < D.length) (hv : 0 ≤ v) : dAt (D.set k.toNat x) v = if v = k then x else dAt D v := by
  unfold dAt
  simp only [List.getD_eq_getElem?_getD, List.getElem?_set]
  by_cases e : v = k
  · subst e; simp [hk']
  · have : ¬ k.toNat = v.toNat := by omega
    simp [e, this]
theorem dAt_out {D : List Int} {v : Int} (h : D.length ≤ v.toNat) : dAt D v = -1 := by
  simp [dAt, List.getD_eq_getElem?_getD, List.getElem?_eq_none h]
theorem dAt_neg {D : List Int} {v : Int} (h : v ≤ 0) : dAt D v = dAt D 0 := by
  unfold dAt
  rw [show v.toNat = 0 from by omega]
  rfl

/-- A sum over a list. -/
def sumF (f : Int → Nat) : List Int → Nat
  | [] => 0
  | a :: l => f a + sumF f l
theorem sumF_set (f : Int → Nat) (y : Int) : ∀ (D : List Int) (k : Nat) (h : k < D.length), sumF f (D.set k y) + f D[k] = sumF f D + f y
  | a :: l, 0, _ => by simp [sumF]; omega
  | a :: l, k + 1, h => by
    have := sumF_set f y l k (by simpa using h)
    simp only [List.set_cons_succ, sumF, List.getElem_cons_succ]
    omega
theorem sumF_le (f : Int → Nat) (m : Nat) : ∀ (D : List Int), (∀ x, f x ≤ m) → sumF f D ≤ m * D.length
  | [], _ => by simp [sumF]
  | a :: l, h => by
    have h1 := sumF_le f m l h
    have h2 := h a
    simp only [sumF, List.length_cons, Nat.mul_add, Nat.mul_one]
    omega
/-- Is it a distance? -/
def cntF (x : Int) : Nat := if x < 0 then 0 else 1
def potF (x : Int) : Nat := if x < 0 then 24001 else x.toNat

/-- What holds of D as long as arcs are relaxed. -/
structure Rel (N : Int) (L : List (Int × Int × Int)) (s : Int) (D : List Int) : Prop where
  len : D.length = N.toNat
  low : ∀ v, -1 ≤ dAt D v
  start : dAt D s = 0
  back : ∀ v, 0 ≤ v → v < N → 0 ≤ dAt D v → v = s ∨ ∃ a ∈ L, a.2.1 = v ∧ 0 ≤ dAt D a.1 ∧ dAt D a.1 + a.2.2 ≤ dAt D v
  top : ∀ v, dAt D v + 1000 ≤ 1000 * (sumF cntF D : Nat)
/-- An arc that makes its end nearer. -/
def nearer (D : List Int) (a : Int × Int × Int) : Bool := decide (0 ≤ dAt D a.1 ∧ (dAt D a.2.1 < 0 ∨ dAt D a.1 + a.2.2 < dAt D a.2.1))
def relax (D : List Int) (a : Int × Int × Int) : List Int := if nearer D a = true then D.set a.2.1.toNat (dAt D a.1 + a.2.2) else D

theorem Rel.bound {N : Int} {L : List (Int × Int × Int)} {s : Int} {D : List Int} (h : Rel N L s D) (hN : N ≤ 24) (v : Int) : dAt D v ≤ 23000 := by
  have h1 := h.top v
  have h2 := sumF_le cntF 1 D (fun x => by unfold cntF; split <;> omega)
  have h3 := h.len
  omega

theorem Rel.step {N : Int} {L : List (Int × Int × Int)} {s : Int} {D : List Int} (hL : ArcsIn N L) (hN : N ≤ 24) (h : Rel N L s D) {a : Int × Int × Int} (ha : a ∈ L) (hn : nearer D a = true) :
    Rel N L s (D.set a.2.1.toNat (dAt D a.1 + a.2.2)) ∧ sumF potF (D.set a.2.1.toNat (dAt D a.1 + a.2.2)) < sumF potF D := by
  obtain ⟨a0, a1, a2, a3, a4, a5⟩ := hL a ha
  simp only [nearer, decide_eq_true_eq] at hn
  obtain ⟨hu, hv⟩ := hn
  have hk : a.2.1.toNat < D.length := by rw [h.len]; omega
  have hb := h.bound hN a.1
  have ht := h.top a.1
  have hDk : D[a.2.1.toNat] = dAt D a.2.1 := by simp [dAt, hk]
  have hc := sumF_set cntF (dAt D a.1 + a.2.2) D _ hk
  have hp := sumF_set potF (dAt D a.1 + a.2.2) D _ hk
  rw [hDk] at hc hp
  have hc1 : cntF (dAt D a.1 + a.2.2) = 1 := by unfold cntF; rw [if_neg (by omega)]
  have hp1 : potF (dAt D a.1 + a.2.2) = (dAt D a.1 + a.2.2).toNat := by unfold potF; rw [if_neg (by omega)]
  have hset : ∀ v, 0 ≤ v → dAt (D.set a.2.1.toNat (dAt D a.1 + a.2.2)) v = if v = a.2.1 then dAt D a.1 + a.2.2 else dAt D v := fun v hv => dAt_set a2 hk hv
  have hne : a.1 ≠ a.2.1 := by
    intro e
    rw [← e] at hv
    omega
  have hst := h.start
  have hcnt : sumF cntF D ≤ sumF cntF (D.set a.2.1.toNat (dAt D a.1 + a.2.2)) ∧ (dAt D a.2.1 < 0 → sumF cntF D + 1 ≤ sumF cntF (D.set a.2.1.toNat (dAt D a.1 + a.2.2))) := by
    have : cntF (dAt D a.2.1) ≤ 1 := by unfold cntF; split <;> omega
    refine ⟨by omega, fun hlt => ?_⟩
    have : cntF (dAt D a.2.1) = 0 := by unfold cntF; rw [if_pos hlt]
    omega
  refine ⟨⟨by simpa using h.len, fun v => ?_, ?_, fun v h0 h1 hp => ?_, fun v => ?_⟩, ?_⟩
  · by_cases hv0 : 0 ≤ v
    · rw [hset v hv0]
      split
      · omega
      · exact h.low v
    · rw [dAt_neg (by omega), hset 0 (by omega)]
      split
      · omega
      · exact h.low 0
  · by_cases hs : 0 ≤ s
    · rw [hset s hs, if_neg]
      · exact hst
      · rintro rfl
        omega
    · rw [dAt_neg (by omega), hset 0 (by omega), if_neg]
      · rw [← dAt_neg (v := s) (by omega)]; exact hst
      · intro e
        rw [dAt_neg (v := s) (by omega), e] at hst
        omega
  · rw [hset v h0] at hp ⊢
    by_cases e : v = a.2.1
    · subst e
      rw [if_pos rfl] at hp ⊢
      exact .inr ⟨a, ha, rfl, by rw [hset a.1 a0, if_neg hne]; exact hu, by rw [hset a.1 a0, if_neg hne]; omega⟩
    · rw [if_neg e] at hp ⊢
      rcases h.back v h0 h1 hp with h' | ⟨b, hb', e1, e2, e3⟩
      · exact .inl h'
      · obtain ⟨b0, b1, b2, b3, b4, b5⟩ := hL b hb'
        refine .inr ⟨b, hb', e1, ?_, ?_⟩
        · rw [hset b.1 b0]; split <;> omega
        · rw [hset b.1 b0]
          split
          · rename_i e4
            rw [e4] at e2 e3
            omega
          · exact e3
  · have hlow := h.low a.2.1
    have goal : ∀ v, 0 ≤ v → dAt (D.set a.2.1.toNat (dAt D a.1 + a.2.2)) v + 1000 ≤ 1000 * (sumF cntF (D.set a.2.1.toNat (dAt D a.1 + a.2.2)) : Nat) := by
      intro v hv0
      rw [hset v hv0]
      split
      · rcases hv with hv | hv
        · have := hcnt.2 hv
          omega
        · have := h.top a.2.1
          have := hcnt.1
          omega
      · have := h.top v
        have := hcnt.1
        omega
    by_cases hv0 : 0 ≤ v
    · exact goal v hv0
    · rw [dAt_neg (by omega)]
      exact goal 0 (by omega)
  · have : potF (dAt D a.2.1) = if dAt D a.2.1 < 0 then 24001 else (dAt D a.2.1).toNat := rfl
    rcases hv with hv | hv
    · rw [if_pos hv] at this
      omega
    · rw [if_neg (by omega)] at this
      omega
theorem Rel.relax {N : Int} {L : List (Int × Int × Int)} {s : Int} {D : List Int} (hL : ArcsIn N L) (hN : N ≤ 24) (h : Rel N L s D) {a : Int × Int × Int} (ha : a ∈ L) : Rel N L s (relax D a) := by
  unfold Proofs.Ytffjpfanmnkmgaa.relax
  split
  · exact (h.step hL hN ha ‹_›).1
  · exact h
/-- Where no arc makes its end nearer, D tells how far all nodes are. -/
theorem Rel.done {N : Int} {L : List (Int × Int × Int)} {s : Int} {D : List Int} (hL : ArcsIn N L) (h : Rel N L s D) (hd : ∀ a ∈ L, nearer D a = false) : IsDist N L s D := by
  have harc : ∀ a ∈ L, 0 ≤ dAt D a.1 → 0 ≤ dAt D a.2.1 ∧ dAt D a.2.1 ≤ dAt D a.1 + a.2.2 := by
    intro a ha hu
    have := hd a ha
    simp only [nearer, decide_eq_false_iff_not] at this
    omega
  refine ⟨h.len, h.low, h.start, harc, fun v h0 h1 hp => ?_⟩
  rcases h.back v h0 h1 hp with h' | ⟨a, ha, e1, e2, e3⟩
  · exact .inl h'
  · have := harc a ha e2
    rw [e1] at this
    exact .inr ⟨a, ha, e1, e2, by omega⟩

/-- Nothing is known but that s is reached. -/
def startD (N s : Int) : List Int := (List.replicate N.toNat (-1)).set s.toNat 0
theorem dAt_start {N s v : Int} (h0 : 0 ≤ s) (h1 : s < N) (hv : 0 ≤ v) : dAt (startD N s) v = if v = s then 0 else -1 := by
  unfold startD
  rw [dAt_set h0 (by simp; omega) hv]
  have : dAt (List.replicate N.toNat (-1)) v = -1 := by
    unfold dAt
    simp only [List.getD_eq_getElem?_getD, List.getElem?_replicate]
    split <;> rfl
  rw [this]
theorem Rel.start_ {N s : Int} {L : List (Int × Int × Int)} (h0 : 0 ≤ s) (h1 : s < N) : Rel N L s (startD N s) := by
  have hc : sumF cntF (startD N s) = 1 := by
    unfold startD
    have h := sumF_set cntF 0 (List.replicate N.toNat (-1)) s.toNat (by simp; omega)
    have h2 : ∀ n, sumF cntF (List.replicate n (-1)) = 0 := by
      intro n
      induction n with
      | zero => rfl
      | succ n ih => simp [List.replicate_succ, sumF, ih, cntF]
    rw [h2] at h
    simp only [List.getElem_replicate] at h
    have e1 : cntF (-1) = 0 := rfl
    have e2 : cntF 0 = 1 := rfl
    omega
  have hd : ∀ v, dAt (startD N s) v = -1 ∨ dAt (startD N s) v = 0 := by
    intro v
    by_cases hv : 0 ≤ v
    · rw [dAt_start h0 h1 hv]; split <;> simp
    · rw [dAt_neg (by omega), dAt_start h0 h1 (by omega)]; split <;> simp
  refine ⟨by simp [startD], fun v => ?_, by rw [dAt_start h0 h1 h0, if_pos rfl], fun v hv hvN hp => ?_, fun v => ?_⟩
  · rcases hd v with h | h <;> omega
  · rw [dAt_start h0 h1 hv] at hp
    split at hp
    · exact .inl ‹_›
    · omega
  · rw [hc]
    rcases hd v with h | h <;> omega

/-- Relax all arcs, again and again. -/
def bfL (L : List (Int × Int × Int)) : Nat → List Int → List Int
  | 0, D => D
  | n + 1, D => match L.find? (nearer D) with
    | none => D
    | some a => bfL L n (relax D a)
theorem bfL_done {N : Int} {L : List (Int × Int × Int)} {s : Int} (hL : ArcsIn N L) (hN : N ≤ 24) : ∀ (n : Nat) (D : List Int), Rel N L s D → sumF potF D < n → IsDist N L s (bfL L n D)
  | 0, D, _, h => absurd h (by omega)
  | n + 1, D, h, hp => by
    unfold bfL
    cases hf : L.find? (nearer D) with
    | none =>
      refine h.done hL fun a ha => ?_
      have := List.find?_eq_none.1 hf a ha
      simpa using this
    | some a =>
      have h1 := List.mem_of_find?_eq_some hf
      have h2 := List.find?_some hf
      obtain ⟨x, y⟩ := h.step hL hN h1 h2
      have e : relax D a = D.set a.2.1.toNat (dAt D a.1 + a.2.2) := by unfold relax; rw [if_pos h2]
      refine bfL_done hL hN n _ (by rw [e]; exact x) (by rw [e]; omega)
/-- How far all nodes are from s. -/
def distL (N : Int) (L : List (Int × Int × Int)) (s : Int) : List Int := bfL L 576025 (startD N s)
theorem distL_is {N : Int} {L : List (Int × Int × Int)} {s : Int} (hL : ArcsIn N L) (hN : N ≤ 24) (h0 : 0 ≤ s) (h1 : s < N) : IsDist N L s (distL N L s) := by
  refine bfL_done hL hN _ _ (Rel.start_ h0 h1) ?_
  have h := sumF_set potF 0 (List.replicate N.toNat (-1)) s.toNat (by simp; omega)
  have h2 : ∀ n, sumF potF (List.replicate n (-1)) = 24001 * n := by
    intro n
    induction n with
    | zero => rfl
    | succ n ih => simp [List.replicate_succ, sumF, ih, potF]; omega
  rw [h2] at h
  simp only [List.getElem_replicate] at h
  have e1 : potF (-1) = 24001 := rfl
  have e2 : potF 0 = 0 := rfl
  rw [e1, e2] at h
  show sumF potF ((List.replicate N.toNat (-1)).set s.toNat 0) < 576025
  have : N.toNat ≤ 24 := by omega
  omega
theorem distL_of {N : Int} {L : List (Int × Int × Int)} {s : Int} {D : List Int} (hL : ArcsIn N L) (hN : N ≤ 24) (h0 : 0 ≤ s) (h1 : s < N) (h : IsDist N L s D) : D = distL N L s :=
  h.uniq hL (distL_is hL hN h0 h1)
/-- No node is farther than 23000. -/
theorem IsDist.top {N : Int} {L : List (Int × Int × Int)} {s : Int} {D : List Int} (hL : ArcsIn N L) (hN : N ≤ 24) (h0 : 0 ≤ s) (h1 : s < N) (h : IsDist N L s D) (v : Int) : dAt D v ≤ 23000 := by
  have hb : ∀ (n : Nat) (D : List Int), Rel N L s D → (∀ v, dAt (bfL L n D) v ≤ 23000) := by
    intro n
    induction n with
    | zero => exact fun D h v => h.bound hN v
    | succ n ih =>
      intro D h v
      unfold bfL
      cases hf : L.find? (nearer D) with
      | none => exact h.bound hN v
      | some a => exact ih _ (h.relax hL hN (List.mem_of_find?_eq_some hf)) v
  rw [distL_of hL hN h0 h1 h]
  exact hb _ _ (Rel.start_ h0 h1) v

end Go.Proofs.Ytffjpfanmnkmgaa
