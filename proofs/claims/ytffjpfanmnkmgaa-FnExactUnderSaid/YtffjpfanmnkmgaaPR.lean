/-
  What is proved here: plain facts on arcs that are turned, and on the first of the shortest paths. No conditions beyond those that each theorem states.
-/
import Derived.Test.YtffjpfanmnkmgaaM1g
import Derived.Test.YtffjpfanmnkmgaaPD
set_option linter.unusedSimpArgs false
set_option linter.unusedVariables false
namespace Go.Proofs.Ytffjpfanmnkmgaa
open Go.RowKit

theorem arcsIn_of_ok {N : Int} {L : List Arc3} (h : okB N L = true) : ArcsIn N L := fun a ha => by
  have := (okB_elim h).2.2.2.1 a ha
  simp only [arcB, decide_eq_true_eq] at this
  omega
/-- An arc the other way round. -/
def turnA (a : Arc3) : Arc3 := (a.2.1, a.1, a.2.2)
/-- The arcs the other way round, in order. -/
def revL (L : List Arc3) : List Arc3 := L.foldl (fun acc a => putL (turnA a) acc) []

theorem putL_sorted (a : Arc3) (L : List Arc3) (hs : L.Pairwise AheadP) (hE : ∀ b ∈ L, isEnds a.1 a.2.1 b = false) : (putL a L).Pairwise AheadP ∧ (putL a L).Perm (a :: L) := by
  have key : ∀ (M : List Arc3), M.Pairwise AheadP → ∃ X Y, M = X ++ Y ∧ (∀ x ∈ X, aheadB x.1 x.2.1 a.1 a.2.1 = true) ∧ ∀ y ∈ Y, aheadB y.1 y.2.1 a.1 a.2.1 = false := by
    intro M
    induction M with
    | nil => exact fun _ => ⟨[], [], rfl, by simp, by simp⟩
    | cons b M ih =>
      intro hM
      rw [List.pairwise_cons] at hM
      cases hb : aheadB b.1 b.2.1 a.1 a.2.1 with
      | true =>
        obtain ⟨X, Y, rfl, hX, hY⟩ := ih hM.2
        refine ⟨b :: X, Y, rfl, fun x hx => ?_, hY⟩
        rcases List.mem_cons.1 hx with rfl | hx
        · exact hb
        · exact hX x hx
      | false =>
        refine ⟨[], b :: M, rfl, by simp, fun y hy => ?_⟩
        rcases List.mem_cons.1 hy with rfl | hy
        · exact hb
        · cases hya : aheadB y.1 y.2.1 a.1 a.2.1 with
          | false => rfl
          | true =>
            have := ahead_trans (hM.1 y hy) hya
            rw [hb] at this
            cases this
  obtain ⟨X, Y, rfl, hX, hY⟩ := key L hs
  rw [putL_mid a X Y hX hY fun y hy => hE y (by simp [hy])]
  obtain ⟨h1, h2, h3⟩ := List.pairwise_append.1 hs
  constructor
  · rw [List.append_assoc]
    refine List.pairwise_append.2 ⟨h1, List.pairwise_append.2 ⟨List.pairwise_singleton _ _, h2, fun u hu y hy => ?_⟩, fun x hx z hz => ?_⟩
    · simp only [List.mem_singleton] at hu
      subst hu
      have h5 := hE y (by simp [hy])
      exact ahead_total (hY y hy) fun hc => by rw [isEnds_iff.2 hc] at h5; cases h5
    · rw [List.mem_append] at hz
      rcases hz with hz | hz
      · simp only [List.mem_singleton] at hz
        subst hz
        exact hX x hx
      · exact h3 x hx z hz
  · rw [List.append_assoc]
    exact List.perm_middle
theorem turnA_turnA (a : Arc3) : turnA (turnA a) = a := rfl
theorem rev_fold : ∀ (K acc : List Arc3), (acc ++ K.map turnA).Pairwise (fun a b => ¬ (a.1 = b.1 ∧ a.2.1 = b.2.1)) → acc.Pairwise AheadP →
    (K.foldl (fun acc a => putL (turnA a) acc) acc).Pairwise AheadP ∧ (K.foldl (fun acc a => putL (turnA a) acc) acc).Perm (acc ++ K.map turnA)
  | [], acc, _, hs => ⟨hs, by simp⟩
  | a :: K, acc, hd, hs => by
    have hE : ∀ b ∈ acc, isEnds (turnA a).1 (turnA a).2.1 b = false := fun b hb => by
      cases he : isEnds (turnA a).1 (turnA a).2.1 b with
      | false => rfl
      | true => exact absurd (isEnds_iff.1 he) ((List.pairwise_append.1 hd).2.2 b hb (turnA a) (by simp))
    obtain ⟨h1, h2⟩ := putL_sorted (turnA a) acc hs hE
    have hp : (putL (turnA a) acc ++ K.map turnA).Perm (acc ++ (a :: K).map turnA) := by
      refine (h2.append_right _).trans ?_
      simp only [List.map_cons, List.cons_append]
      exact List.perm_middle.symm
    obtain ⟨h3, h4⟩ := rev_fold K (putL (turnA a) acc) (hp.symm.pairwise hd (fun {x y} h => fun hc => h ⟨hc.1.symm, hc.2.symm⟩)) h1
    exact ⟨h3, h4.trans hp⟩
theorem ahead_ne {a b : Arc3} (h : AheadP a b) : ¬ (a.1 = b.1 ∧ a.2.1 = b.2.1) := by
  unfold AheadP at h
  simp only [aheadB, decide_eq_true_eq] at h
  omega
theorem revL_sorted {L : List Arc3} (hs : L.Pairwise AheadP) : (revL L).Pairwise AheadP ∧ (revL L).Perm (L.map turnA) := by
  have := rev_fold L [] (by
    rw [List.nil_append, List.pairwise_map]
    exact hs.imp fun {a b} h => fun hc => ahead_ne h ⟨hc.2, hc.1⟩) List.Pairwise.nil
  simpa [revL] using this
theorem sorted_uniq : ∀ {X Y : List Arc3}, X.Pairwise AheadP → Y.Pairwise AheadP → X.Perm Y → X = Y
  | [], Y, _, _, h => (List.nil_perm.1 h).symm
  | a :: X, [], _, _, h => absurd h (by simp)
  | a :: X, b :: Y, hX, hY, h => by
    have e : a = b := by
      rcases List.mem_cons.1 (h.mem_iff.1 (List.mem_cons_self : a ∈ a :: X)) with e | e
      · exact e
      · rcases List.mem_cons.1 (h.mem_iff.2 (List.mem_cons_self : b ∈ b :: Y)) with e' | e'
        · exact e'.symm
        · have h1 := (List.pairwise_cons.1 hX).1 b e'
          have h2 := (List.pairwise_cons.1 hY).1 a e
          have h3 := ahead_trans h1 h2
          rw [ahead_irrefl] at h3
          cases h3
    subst e
    rw [sorted_uniq (List.pairwise_cons.1 hX).2 (List.pairwise_cons.1 hY).2 h.cons_inv]
theorem revL_mem {L : List Arc3} (hs : L.Pairwise AheadP) {b : Arc3} : b ∈ revL L ↔ turnA b ∈ L := by
  rw [(revL_sorted hs).2.mem_iff, List.mem_map]
  constructor
  · rintro ⟨a, ha, rfl⟩
    exact ha
  · exact fun h => ⟨turnA b, h, rfl⟩
theorem revL_len {L : List Arc3} (hs : L.Pairwise AheadP) : (revL L).length = L.length := by
  rw [(revL_sorted hs).2.length_eq, List.length_map]
theorem revL_ok {N : Int} {L : List Arc3} (h : okB N L = true) : okB N (revL L) = true := by
  obtain ⟨h1, h2, h3, h4, h5⟩ := okB_elim h
  refine okB_intro h1 h2 (by rw [revL_len h5]; exact h3) (fun a ha => ?_) (revL_sorted h5).1
  have := h4 _ ((revL_mem h5).1 ha)
  unfold turnA at this
  simp only [arcB, decide_eq_true_eq] at this ⊢
  omega
theorem revL_revL {N : Int} {L : List Arc3} (h : okB N L = true) : revL (revL L) = L := by
  obtain ⟨h1, h2, h3, h4, h5⟩ := okB_elim h
  obtain ⟨r1, r2⟩ := revL_sorted h5
  obtain ⟨q1, q2⟩ := revL_sorted r1
  refine sorted_uniq q1 h5 (q2.trans ((r2.map turnA).trans ?_))
  rw [List.map_map]
  have : (turnA ∘ turnA) = id := by funext a; rfl
  rw [this, List.map_id]

/-- The arc to the least node by way of which it is no farther. -/
def nextB (D : List Int) (v : Int) (a : Arc3) : Bool := decide (0 ≤ dAt D a.2.1 ∧ a.2.2 + dAt D a.2.1 = dAt D v)
def nextL (L : List Arc3) (D : List Int) (v : Int) : Option Arc3 := (fromL v L).find? (nextB D v)
theorem nextL_some {N t v : Int} {L : List Arc3} {D : List Int} (ho : okB N L = true) (h : IsDist N (revL L) t D) (h0 : 0 ≤ v) (h1 : v < N) (hv : v ≠ t) (hd : 0 ≤ dAt D v) :
    ∃ a, nextL L D v = some a ∧ a ∈ L ∧ a.1 = v ∧ 0 ≤ dAt D a.2.1 ∧ a.2.2 + dAt D a.2.1 = dAt D v ∧ 0 ≤ a.2.1 ∧ a.2.1 < N ∧ dAt D a.2.1 < dAt D v := by
  have hp := (okB_elim ho).2.2.2.2
  have hin := arcsIn_of_ok ho
  rcases h.back v h0 h1 hd with rfl | ⟨b, hb, e1, e2, e3⟩
  · exact absurd rfl hv
  · have hb' := (revL_mem hp).1 hb
    cases hf : nextL L D v with
    | none =>
      have := List.find?_eq_none.1 hf (turnA b) (by
        unfold fromL
        exact List.mem_filter.2 ⟨hb', by simp [turnA, e1]⟩)
      refine absurd (show nextB D v (turnA b) = true from ?_) this
      simp only [nextB, decide_eq_true_eq]
      exact ⟨e2, by show b.2.2 + dAt D b.1 = dAt D v; omega⟩
    | some a =>
      have m1 := List.mem_of_find?_eq_some hf
      have m2 := List.find?_some hf
      simp only [nextB, decide_eq_true_eq] at m2
      unfold fromL at m1
      obtain ⟨m3, m4⟩ := List.mem_filter.1 m1
      obtain ⟨a0, a1, a2, a3, a4, a5⟩ := hin a m3
      exact ⟨a, rfl, m3, by simpa using m4, m2.1, m2.2, a2, a3, by omega⟩
/-- The nodes behind v on the first of the shortest paths to t. -/
def stepsL (L : List Arc3) (D : List Int) (t v : Int) : List Int :=
  if v = t then [] else match nextL L D v with
    | none => []
    | some a => if h : (dAt D a.2.1).toNat < (dAt D v).toNat then a.2.1 :: stepsL L D t a.2.1 else []
termination_by (dAt D v).toNat
theorem stepsL_end (L : List Arc3) (D : List Int) (t : Int) : stepsL L D t t = [] := by
  rw [stepsL]
  simp
theorem stepsL_next {L : List Arc3} {D : List Int} {t v : Int} (hv : v ≠ t) {a : Arc3} (hn : nextL L D v = some a) (h0 : 0 ≤ dAt D a.2.1) (h : dAt D a.2.1 < dAt D v) : stepsL L D t v = a.2.1 :: stepsL L D t a.2.1 := by
  rw [stepsL, if_neg hv, hn]
  simp only []
  rw [dif_pos (by omega)]

end Go.Proofs.Ytffjpfanmnkmgaa
