/-
  What is proved here: plain facts on arcs that are given a weight once and again. No conditions beyond those that each theorem states.
-/
import Derived.Test.YtelgjfflhcmljaaPQ
import Derived.Test.YtelgjfflhcmljaaG2
set_option linter.unusedSimpArgs false
set_option linter.unusedVariables false
namespace Go.Proofs.Ytelgjfflhcmljaa
open Go.RowKit

theorem restL_sorted {L : List Arc3} (u v : Int) (hs : L.Pairwise AheadP) : (restL u v L).Pairwise AheadP := hs.filter _
theorem restL_ends {L : List Arc3} {u v : Int} : ∀ b ∈ restL u v L, isEnds u v b = false := fun b hb => by
  have := (List.mem_filter.1 hb).2
  simpa using this
theorem restL_same {M : List Arc3} {u v : Int} (hE : ∀ b ∈ M, isEnds u v b = false) : restL u v M = M :=
  List.filter_eq_self.2 fun b hb => by simp [hE b hb]
theorem restL_put {M : List Arc3} {u v y : Int} (hs : M.Pairwise AheadP) (hE : ∀ b ∈ M, isEnds u v b = false) : restL u v (putL (u, v, y) M) = M := by
  obtain ⟨p1, p2⟩ := putL_sorted (u, v, y) M hs hE
  refine sorted_uniq (restL_sorted u v p1) hs ((p2.filter _).trans ?_)
  have e : ((u, v, y) :: M).filter (fun a => !(isEnds u v a)) = restL u v M := by
    rw [List.filter_cons_of_neg (by simp [isEnds])]
    rfl
  rw [e, restL_same hE]
theorem restL_weighed {L : List Arc3} {u v y : Int} (hs : L.Pairwise AheadP) : restL u v (weighedL u v y L) = restL u v L := by
  unfold weighedL
  split
  · exact restL_put (restL_sorted u v hs) restL_ends
  · exact restL_same restL_ends
/-- A weight that is given again is as if it were given once. -/
theorem weighed_twice {L : List Arc3} {u v x y : Int} (hs : L.Pairwise AheadP) : weighedL u v x (weighedL u v y L) = weighedL u v x L := by
  show (if 0 < x then putL (u, v, x) (restL u v (weighedL u v y L)) else restL u v (weighedL u v y L)) = _
  rw [restL_weighed hs]
  rfl
theorem weighedB_twice {N : Int} {L : List Arc3} {u v x y : Int} (h1 : weighedB N L u v x = true) (h2 : weighedB N L u v y = true) : weighedB N (weighedL u v y L) u v x = true := by
  unfold weighedB at *
  simp only [Bool.and_eq_true] at *
  obtain ⟨⟨⟨a1, a2⟩, a3⟩, a4⟩ := h1
  obtain ⟨⟨⟨b1, b2⟩, b3⟩, b4⟩ := h2
  exact ⟨⟨⟨b4, a2⟩, a3⟩, by rw [weighed_twice (okB_elim a1).2.2.2.2]; exact a4⟩
theorem ends_one {L : List Arc3} {u v : Int} (hs : L.Pairwise AheadP) {a : Arc3} (ha : a ∈ L) (he : isEnds u v a = true) : L.filter (isEnds u v) = [a] := by
  have hp := hs.filter (isEnds u v)
  have hm : a ∈ L.filter (isEnds u v) := List.mem_filter.2 ⟨ha, he⟩
  have hall : ∀ b ∈ L.filter (isEnds u v), isEnds u v b = true := fun b hb => (List.mem_filter.1 hb).2
  generalize L.filter (isEnds u v) = M at *
  match M, hm, hp, hall with
  | [], hm, _, _ => cases hm
  | [b], hm, _, _ => rw [List.mem_singleton] at hm; rw [hm]
  | b :: d :: r, hm, hp, hall =>
    have h1 := isEnds_iff.1 (hall b (by simp))
    have h2 := isEnds_iff.1 (hall d (by simp))
    have h3 := List.rel_of_pairwise_cons hp (show d ∈ d :: r by simp)
    unfold AheadP at h3
    rw [h1.1, h1.2, h2.1, h2.2, ahead_irrefl] at h3
    cases h3
theorem wtL_has {L : List Arc3} {u v : Int} : 0 < wtL u v L → ∃ a ∈ L, isEnds u v a = true ∧ wtL u v L = a.2.2 := by
  induction L with
  | nil => intro h; exact absurd h (by simp [wtL])
  | cons b L ih =>
    intro h
    unfold wtL at h ⊢
    split at h
    · rename_i e
      rw [if_pos e]
      exact ⟨b, by simp, e, rfl⟩
    · rename_i e
      rw [if_neg e]
      obtain ⟨a, h1, h2, h3⟩ := ih h
      exact ⟨a, by simp [h1], h2, h3⟩
theorem wtL_ends {L : List Arc3} {u v : Int} (h : ∀ a ∈ L, isEnds u v a = false) : wtL u v L = 0 :=
  wtL_none fun k hk => h _ (List.getElem_mem hk)
theorem weighed_back {L : List Arc3} {u v : Int} (hs : L.Pairwise AheadP) (hw : ∀ a ∈ L, 1 ≤ a.2.2) : weighedL u v (wtL u v L) L = L := by
  have hperm : (L.filter (isEnds u v) ++ restL u v L).Perm L := List.filter_append_perm _ _
  unfold weighedL
  split
  · rename_i h
    obtain ⟨a, hm, he, e⟩ := wtL_has h
    have h1 := ends_one hs hm he
    obtain ⟨e1, e2⟩ := isEnds_iff.1 he
    have ea : (u, v, wtL u v L) = a := by rw [e, ← e1, ← e2]
    rw [ea]
    obtain ⟨p1, p2⟩ := putL_sorted a (restL u v L) (restL_sorted u v hs) (by rw [e1, e2]; exact restL_ends)
    refine sorted_uniq p1 hs (p2.trans ?_)
    rw [h1] at hperm
    exact hperm
  · rename_i h
    refine restL_same fun b hb => ?_
    cases hc : isEnds u v b with
    | false => rfl
    | true =>
      obtain ⟨e1, e2⟩ := isEnds_iff.1 hc
      have h3 := wtL_mem hs hb
      rw [e1, e2] at h3
      have := hw b hb
      omega
/-- A weight that was given is the arc's; no other is another. -/
theorem wtL_weighed {L : List Arc3} {u v x s t : Int} (hs : L.Pairwise AheadP) (hx : 0 ≤ x) : wtL s t (weighedL u v x L) = if s = u ∧ t = v then x else wtL s t L := by
  have hr := restL_sorted u v hs
  have hin : ∀ a : Arc3, a ∈ restL u v L ↔ a ∈ L ∧ isEnds u v a = false := fun a => by
    unfold restL
    rw [List.mem_filter]
    simp
  have hne : ∀ a : Arc3, isEnds s t a = true → ¬ (s = u ∧ t = v) → isEnds u v a = false := fun a h h' => by
    cases hc : isEnds u v a with
    | false => rfl
    | true =>
      obtain ⟨a1, a2⟩ := isEnds_iff.1 h
      obtain ⟨b1, b2⟩ := isEnds_iff.1 hc
      exact absurd ⟨a1.symm.trans b1, a2.symm.trans b2⟩ h'
  -- two sorted lists with the same arcs of these ends weigh the same
  have key : ∀ (X Y : List Arc3), X.Pairwise AheadP → Y.Pairwise AheadP → (∀ a : Arc3, isEnds s t a = true → (a ∈ X ↔ a ∈ Y)) → wtL s t X = wtL s t Y := fun X Y hX hY h => by
    by_cases hc : ∃ a ∈ X, isEnds s t a = true
    · obtain ⟨a, ha, he⟩ := hc
      obtain ⟨e1, e2⟩ := isEnds_iff.1 he
      have h1 := wtL_mem hX ha
      have h2 := wtL_mem hY ((h a he).1 ha)
      rw [e1, e2] at h1 h2
      rw [h1, h2]
    · rw [wtL_ends (fun a ha => by cases hq : isEnds s t a with
        | false => rfl
        | true => exact absurd ⟨a, ha, hq⟩ hc), wtL_ends (fun a ha => by cases hq : isEnds s t a with
        | false => rfl
        | true => exact absurd ⟨a, (h a hq).2 ha, hq⟩ hc)]
  unfold weighedL
  split
  · rename_i h
    obtain ⟨p1, p2⟩ := putL_sorted (u, v, x) (restL u v L) hr restL_ends
    split
    · rename_i e
      obtain ⟨rfl, rfl⟩ := e
      exact wtL_mem p1 (a := (s, t, x)) (p2.mem_iff.2 (by simp))
    · rename_i e
      refine key _ _ p1 hs fun a ha => ?_
      rw [p2.mem_iff, List.mem_cons, hin]
      constructor
      · rintro (rfl | h1)
        · obtain ⟨e1, e2⟩ := isEnds_iff.1 ha
          exact absurd ⟨e1.symm, e2.symm⟩ e
        · exact h1.1
      · exact fun h1 => .inr ⟨h1, hne a ha e⟩
  · rename_i h
    split
    · rename_i e
      obtain ⟨rfl, rfl⟩ := e
      rw [wtL_ends restL_ends]
      omega
    · rename_i e
      exact key _ _ hr hs fun a ha => by rw [hin]; exact ⟨fun h1 => h1.1, fun h1 => ⟨h1, hne a ha e⟩⟩

end Go.Proofs.Ytelgjfflhcmljaa
