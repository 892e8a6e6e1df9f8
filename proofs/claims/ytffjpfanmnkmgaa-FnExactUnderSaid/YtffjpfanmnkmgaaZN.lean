/-
  What is proved here: nodes that are taken out of a heap, the nearest first, are told as far as they are, each once; a region that draws its order, inside a fence that lets all by, is met by the laws for one without a fence; what the iterator over the nearest nodes keeps in memory; the iterator over the nearest nodes tells just those that are reached, the nearest first; how far all nodes are, as the code reckons it; contracts of the laws' small functions on slices of numbers; DistFrom and DistOf, on both sides; how far all nodes are, as the model reckons it; DistFrom and DistOf of the model. No conditions beyond those that each theorem states.
-/
import Derived.Test.YtffjpfanmnkmgaaZH
import Derived.Test.YtffjpfanmnkmgaaPD
import Derived.Test.YtffjpfanmnkmgaaW3
import Derived.Test.YtffjpfanmnkmgaaW4
import Derived.Test.YtffjpfanmnkmgaaX1
import Derived.Sort.LoopGhostIn
import Derived.Outline
import Derived.Deep.LoopGhost
import Derived.IntWalk
set_option linter.unusedSimpArgs false
set_option linter.unusedVariables false
namespace Go.Proofs.Ytffjpfanmnkmgaa

theorem lessI_total {a f : It} (h : lessI a f = false) (hne : a.2 ≠ f.2) : lessI f a = true := by
  simp only [lessI, decide_eq_false_iff_not, decide_eq_true_eq] at *
  omega
theorem lessI_key {a b : It} (h : lessI a b = false) : b.1 ≤ a.1 := by
  simp only [lessI, decide_eq_false_iff_not] at h
  omega
theorem lessI_key' {a b : It} (h : lessI a b = true) : a.1 ≤ b.1 := by
  simp only [lessI, decide_eq_true_eq] at h
  omega
/-- What is left when the first is taken is in order, and all of it is no less than the first. -/
theorem pop_ord {f : It} {t : List It} (c : Ord (f :: t)) : Ord (downI (cutI (f :: t)) 0) ∧ (downI (cutI (f :: t)) 0).Perm t ∧ ∀ a ∈ t, lessI a f = false := by
  have hp := (downI_perm (cutI (f :: t)) 0).trans (cutI_perm f t)
  refine ⟨?_, hp, fun x hx => ?_⟩
  · refine downI_ord (fun i hi hi0 hne => ?_) (fun i hi hi0 hip hp0 => absurd hp0 (by omega))
    rw [cutI_len] at hi
    rw [cutI_at hi0 hi, cutI_at (by omega) (by omega)]
    exact c i (by omega) hi0
  · obtain ⟨i, hi, rfl⟩ := List.mem_iff_getElem.1 (List.mem_cons_of_mem f hx)
    have := c.least i hi
    rw [atI_eq hi] at this
    simpa [atI] using this
theorem push_ord {H : List It} (x : It) (c : Ord H) : Ord (upI (H ++ [x]) H.length) ∧ (upI (H ++ [x]) H.length).Perm (H ++ [x]) := by
  refine ⟨?_, upI_perm H.length (H ++ [x]) (by simp)⟩
  refine upI_ord _ _ (by simp) (fun i hi hi0 hne => ?_) (fun i hi hi0 hip _ => ?_)
  · have hi' : i < H.length := by simp at hi; omega
    rw [atI_append, atI_append, if_neg hne, if_neg (by omega)]
    exact c i hi' hi0
  · simp at hi
    omega

/-- Is a node told? -/
def toldB (Y : List It) (v : Int) : Bool := Y.any fun y => y.2 == v
theorem toldB_iff {Y : List It} {v : Int} : toldB Y v = true ↔ ∃ y ∈ Y, y.2 = v := by simp [toldB]
theorem toldB_no {Y : List It} {v : Int} : toldB Y v = false ↔ ∀ y ∈ Y, y.2 ≠ v := by simp [toldB]
theorem toldB_snoc (Y : List It) (x : It) (v : Int) : toldB (Y ++ [x]) v = (toldB Y v || x.2 == v) := by simp [toldB]

/-- What holds while nodes are taken out: Y are told, H is the heap, R are the arcs from x that are still to be pushed. -/
structure Near (N : Int) (L : List (Int × Int × Int)) (s : Int) (Y H : List It) (R : List (Int × Int × Int)) (x : It) : Prop where
  ids : (Y.map (·.2)).Nodup
  inY : ∀ y ∈ Y, 0 ≤ y.2 ∧ y.2 < N
  inH : ∀ h ∈ H, 0 ≤ h.2 ∧ h.2 < N
  keyY : ∀ y ∈ Y, 0 ≤ y.1 ∧ y.1 + 1000 ≤ 1000 * (Y.length : Nat)
  keyH : ∀ h ∈ H, 0 ≤ h.1 ∧ h.1 ≤ 1000 * (Y.length : Nat)
  sorted : Y.Pairwise fun a b => lessI a b = true
  le : ∀ y ∈ Y, ∀ h ∈ H, lessI h y = false
  start : (0, s) ∈ H ∨ ∃ z ∈ Y, z.2 = s ∧ z.1 ≤ 0
  fromY : ∀ y ∈ Y, (y.1 = 0 ∧ y.2 = s) ∨ ∃ u ∈ Y, ∃ a ∈ L, a.1 = u.2 ∧ a.2.1 = y.2 ∧ y.1 = u.1 + a.2.2
  fromH : ∀ h ∈ H, (h.1 = 0 ∧ h.2 = s) ∨ ∃ u ∈ Y, ∃ a ∈ L, a.1 = u.2 ∧ a.2.1 = h.2 ∧ h.1 = u.1 + a.2.2
  arc : ∀ y ∈ Y, ∀ a ∈ L, a.1 = y.2 → a ∈ R ∨ (y.1 + a.2.2, a.2.1) ∈ H ∨ ∃ z ∈ Y, z.2 = a.2.1 ∧ z.1 ≤ y.1 + a.2.2
  ord : Ord H
  rest : ∀ a ∈ R, a ∈ L ∧ a.1 = x.2
  last : R ≠ [] → x ∈ Y ∧ ∀ y ∈ Y, y.1 ≤ x.1
  few : H.length + R.length + (L.filter fun a => !(toldB Y a.1)).length ≤ 1 + L.length

theorem Near.start_ {N s : Int} {L : List (Int × Int × Int)} (h0 : 0 ≤ s) (h1 : s < N) (x : It) : Near N L s [] [(0, s)] [] x where
  ids := by simp
  inY := by simp
  inH := by simp; omega
  keyY := by simp
  keyH := by simp
  sorted := by simp
  le := by simp
  start := by simp
  fromY := by simp
  fromH := by simp
  arc := by simp
  ord := fun i hi h0 => by simp at hi; omega
  rest := by simp
  last := by simp
  few := by
    have : (L.filter fun a => !(toldB [] a.1)).length ≤ L.length := List.length_filter_le _ _
    simp only [List.length_cons, List.length_nil]
    omega
/-- No heap is longer than this. -/
theorem Near.small {N s : Int} {L : List (Int × Int × Int)} {Y H : List It} {R : List (Int × Int × Int)} {x : It} (h : Near N L s Y H R x) : H.length + R.length ≤ 1 + L.length := by
  have := h.few
  omega
theorem nodup_len : ∀ (m : Nat) (l : List Nat), l.Nodup → (∀ n ∈ l, n < m) → l.length ≤ m
  | 0, l, _, h => by
    rcases l with _ | ⟨a, l⟩
    · simp
    · exact absurd (h a (by simp)) (by omega)
  | m + 1, l, hn, h => by
    have h1 := nodup_len m (l.erase m) (hn.erase m) fun n hm => by
      obtain ⟨h2, h3⟩ := (hn.mem_erase_iff).1 hm
      have := h n h3
      omega
    have := List.length_erase (a := m) (l := l)
    split at this <;> omega
theorem Near.told_le {N s : Int} {L : List (Int × Int × Int)} {Y H : List It} {R : List (Int × Int × Int)} {x : It} (hN : N ≤ 24) (h : Near N L s Y H R x) : Y.length ≤ 24 := by
  have h1 : ((Y.map (·.2)).map Int.toNat).Nodup := by
    rw [List.Nodup, List.pairwise_map]
    refine List.Pairwise.imp_of_mem (fun {a b} ha hb hab => ?_) h.ids
    obtain ⟨y, hy, rfl⟩ := List.mem_map.1 ha
    obtain ⟨z, hz, rfl⟩ := List.mem_map.1 hb
    have := h.inY y hy
    have := h.inY z hz
    omega
  have h2 := nodup_len 24 _ h1 fun n hn => by
    simp only [List.mem_map] at hn
    obtain ⟨v, ⟨y, hy, rfl⟩, rfl⟩ := hn
    have := h.inY y hy
    omega
  simpa using h2

/-- The first one of the heap is told: it goes. -/
theorem Near.skip {N s : Int} {L : List (Int × Int × Int)} {Y t : List It} {f x : It} (hL : ArcsIn N L) (h : Near N L s Y (f :: t) [] x) (ht : toldB Y f.2 = true) (x' : It) :
    Near N L s Y (downI (cutI (f :: t)) 0) [] x' := by
  obtain ⟨ho, hp, hl⟩ := pop_ord h.ord
  obtain ⟨z, hz, hzf⟩ := toldB_iff.1 ht
  have hzk := lessI_key (h.le z hz f (by simp))
  have hm : ∀ a, a ∈ downI (cutI (f :: t)) 0 → a ∈ f :: t := fun a ha => by simp [hp.mem_iff.1 ha]
  refine ⟨h.ids, h.inY, fun a ha => h.inH a (hm a ha), h.keyY, fun a ha => h.keyH a (hm a ha), h.sorted, fun y hy a ha => h.le y hy a (hm a ha), ?_, h.fromY, fun a ha => h.fromH a (hm a ha), fun y hy a ha hay => ?_, ho, by simp, by simp, ?_⟩
  · rcases h.start with h' | h'
    · rcases List.mem_cons.1 h' with h2 | h2
      · refine .inr ⟨z, hz, by rw [hzf, ← h2], ?_⟩
        rw [← h2] at hzk
        exact hzk
      · exact .inl (hp.mem_iff.2 h2)
    · exact .inr h'
  · rcases h.arc y hy a ha hay with h' | h' | h'
    · simp at h'
    · rcases List.mem_cons.1 h' with h2 | h2
      · refine .inr (.inr ⟨z, hz, by rw [hzf, ← h2], ?_⟩)
        rw [← h2] at hzk
        exact hzk
      · exact .inr (.inl (hp.mem_iff.2 h2))
    · exact .inr (.inr h')
  · have := h.few
    rw [hp.length_eq]
    simp at this ⊢
    omega

theorem filter_told (L : List (Int × Int × Int)) (Y : List It) (f : It) (ht : toldB Y f.2 = false) :
    (L.filter fun a => a.1 == f.2).length + (L.filter fun a => !(toldB (Y ++ [f]) a.1)).length = (L.filter fun a => !(toldB Y a.1)).length := by
  induction L with
  | nil => rfl
  | cons a l ih =>
    simp only [List.filter_cons]
    by_cases e : a.1 = f.2
    · have h1 : (a.1 == f.2) = true := by simpa using e
      have h2 : toldB (Y ++ [f]) a.1 = true := by rw [toldB_snoc, e]; simp
      have h3 : toldB Y a.1 = false := by rw [e]; exact ht
      rw [h1, h2, h3]
      simp
      omega
    · have h1 : (a.1 == f.2) = false := by simpa using e
      have h2 : toldB (Y ++ [f]) a.1 = toldB Y a.1 := by
        rw [toldB_snoc]
        have : (f.2 == a.1) = false := by simpa using fun e' => e e'.symm
        rw [this, Bool.or_false]
      rw [h1, h2]
      cases toldB Y a.1 <;> simp <;> omega

/-- The first one of the heap is not told yet: it is told, and its arcs are to be pushed. -/
theorem Near.tell {N s : Int} {L : List (Int × Int × Int)} {Y t : List It} {f x : It} (hL : ArcsIn N L) (h : Near N L s Y (f :: t) [] x) (ht : toldB Y f.2 = false) :
    Near N L s (Y ++ [f]) (downI (cutI (f :: t)) 0) (L.filter fun a => a.1 == f.2) f := by
  obtain ⟨ho, hp, hl⟩ := pop_ord h.ord
  have hno := toldB_no.1 ht
  have hm : ∀ a, a ∈ downI (cutI (f :: t)) 0 → a ∈ f :: t := fun a ha => by simp [hp.mem_iff.1 ha]
  have hfk := h.keyH f (by simp)
  have hfi := h.inH f (by simp)
  have hlf : ∀ y ∈ Y, lessI y f = true := fun y hy => lessI_total (h.le y hy f (by simp)) (fun e => hno y hy e.symm)
  have hmem : ∀ y, y ∈ Y ++ [f] ↔ y ∈ Y ∨ y = f := by simp
  have hlen : (Y ++ [f]).length = Y.length + 1 := by simp
  have hYle : ∀ y ∈ Y ++ [f], y.1 ≤ f.1 := fun y hy => by
    rcases (hmem y).1 hy with hy | rfl
    · exact lessI_key' (hlf y hy)
    · exact Int.le_refl _
  refine ⟨?_, fun y hy => ?_, fun a ha => h.inH a (hm a ha), fun y hy => ?_, fun a ha => ?_, ?_, fun y hy a ha => ?_, ?_, fun y hy => ?_, fun a ha => ?_, fun y hy a ha hay => ?_, ho, fun a ha => ?_, fun _ => ⟨by simp, hYle⟩, ?_⟩
  · rw [List.map_append, List.nodup_append]
    refine ⟨h.ids, by simp, fun u hu v hv => ?_⟩
    simp at hv
    obtain ⟨y, hy, rfl⟩ := List.mem_map.1 hu
    rw [hv]
    exact hno y hy
  · rcases (hmem y).1 hy with hy | rfl
    · exact h.inY y hy
    · exact hfi
  · rw [hlen]
    rcases (hmem y).1 hy with hy | rfl
    · have := h.keyY y hy
      omega
    · omega
  · rw [hlen]
    have := h.keyH a (hm a ha)
    omega
  · rw [List.pairwise_append]
    exact ⟨h.sorted, by simp, fun a ha b hb => by simp at hb; rw [hb]; exact hlf a ha⟩
  · rcases (hmem y).1 hy with hy | rfl
    · exact h.le y hy a (hm a ha)
    · exact hl a (hp.mem_iff.1 ha)
  · rcases h.start with h' | ⟨z, hz, e⟩
    · rcases List.mem_cons.1 h' with h2 | h2
      · exact .inr ⟨f, by simp, by rw [← h2], by rw [← h2]; exact Int.le_refl _⟩
      · exact .inl (hp.mem_iff.2 h2)
    · exact .inr ⟨z, by simp [hz], e⟩
  · have key : (y.1 = 0 ∧ y.2 = s) ∨ ∃ u ∈ Y, ∃ a ∈ L, a.1 = u.2 ∧ a.2.1 = y.2 ∧ y.1 = u.1 + a.2.2 := by
      rcases (hmem y).1 hy with hy | rfl
      · exact h.fromY y hy
      · exact h.fromH y (by simp)
    rcases key with k | ⟨u, hu, r⟩
    · exact .inl k
    · exact .inr ⟨u, by simp [hu], r⟩
  · rcases h.fromH a (hm a ha) with k | ⟨u, hu, r⟩
    · exact .inl k
    · exact .inr ⟨u, by simp [hu], r⟩
  · rcases (hmem y).1 hy with hy | rfl
    · rcases h.arc y hy a ha hay with h' | h' | ⟨z, hz, e⟩
      · simp at h'
      · rcases List.mem_cons.1 h' with h2 | h2
        · exact .inr (.inr ⟨f, by simp, by rw [← h2], by rw [← h2]; exact Int.le_refl _⟩)
        · exact .inr (.inl (hp.mem_iff.2 h2))
      · exact .inr (.inr ⟨z, by simp [hz], e⟩)
    · exact .inl (List.mem_filter.2 ⟨ha, by simpa using hay⟩)
  · obtain ⟨h1, h2⟩ := List.mem_filter.1 ha
    exact ⟨h1, by simpa using h2⟩
  · have h1 := h.few
    have h2 := filter_told L Y f ht
    rw [hp.length_eq]
    simp at h1 h2 ⊢
    omega

/-- An arc is pushed. -/
theorem Near.push {N s : Int} {L : List (Int × Int × Int)} {Y H : List It} {a : Int × Int × Int} {R : List (Int × Int × Int)} {x : It} (hL : ArcsIn N L) (h : Near N L s Y H (a :: R) x) :
    Near N L s Y (upI (H ++ [(x.1 + a.2.2, a.2.1)]) H.length) R x := by
  obtain ⟨ho, hp⟩ := push_ord (x.1 + a.2.2, a.2.1) h.ord
  obtain ⟨hx, hle⟩ := h.last (by simp)
  obtain ⟨haL, hax⟩ := h.rest a (by simp)
  obtain ⟨a0, a1, a2, a3, a4, a5⟩ := hL a haL
  have hm : ∀ b, b ∈ upI (H ++ [(x.1 + a.2.2, a.2.1)]) H.length ↔ b ∈ H ∨ b = (x.1 + a.2.2, a.2.1) := fun b => by rw [hp.mem_iff]; simp
  have hxk := h.keyY x hx
  refine ⟨h.ids, h.inY, fun b hb => ?_, h.keyY, fun b hb => ?_, h.sorted, fun y hy b hb => ?_, ?_, h.fromY, fun b hb => ?_, fun y hy b hbL hby => ?_, ho, fun b hb => h.rest b (by simp [hb]), fun _ => ⟨hx, hle⟩, ?_⟩
  · rcases (hm b).1 hb with hb | rfl
    · exact h.inH b hb
    · exact ⟨a2, a3⟩
  · rcases (hm b).1 hb with hb | rfl
    · exact h.keyH b hb
    · constructor
      · show 0 ≤ x.1 + a.2.2
        omega
      · show x.1 + a.2.2 ≤ _
        omega
  · rcases (hm b).1 hb with hb | rfl
    · exact h.le y hy b hb
    · have := hle y hy
      simp only [lessI, decide_eq_false_iff_not]
      omega
  · rcases h.start with h' | h'
    · exact .inl ((hm _).2 (.inl h'))
    · exact .inr h'
  · rcases (hm b).1 hb with hb | rfl
    · exact h.fromH b hb
    · exact .inr ⟨x, hx, a, haL, hax, rfl, rfl⟩
  · rcases h.arc y hy b hbL hby with h' | h' | h'
    · rcases List.mem_cons.1 h' with rfl | h2
      · refine .inr (.inl ((hm _).2 (.inr ?_)))
        have : y = x := by
          obtain ⟨i, hi, rfl⟩ := List.mem_iff_getElem.1 hy
          obtain ⟨j, hj, rfl⟩ := List.mem_iff_getElem.1 hx
          have e : (Y.map (·.2))[i]'(by simpa using hi) = (Y.map (·.2))[j]'(by simpa using hj) := by
            simp only [List.getElem_map]
            rw [← hby, ← hax]
          have := (List.getElem_inj h.ids).1 e
          subst this
          rfl
        rw [this]
      · exact .inl h2
    · exact .inr (.inl ((hm _).2 (.inl h')))
    · exact .inr (.inr h')
  · have h1 := h.few
    rw [upI_len]
    simp at h1 ⊢
    omega

theorem Near.any {N s : Int} {L : List (Int × Int × Int)} {Y H : List It} {x : It} (h : Near N L s Y H [] x) (x' : It) : Near N L s Y H [] x' :=
  ⟨h.ids, h.inY, h.inH, h.keyY, h.keyH, h.sorted, h.le, h.start, h.fromY, h.fromH, h.arc, h.ord, by simp, by simp, h.few⟩
/-- A bound of the rounds that are to come. -/
def potN (L : List (Int × Int × Int)) (Y H : List It) : Nat := 2 * H.length + 3 * (L.filter fun a => !(toldB Y a.1)).length
theorem potN_tell (L : List (Int × Int × Int)) (Y H H' : List It) (f : It) (ht : toldB Y f.2 = false) (n : Nat) (hn : (L.filter fun a => a.1 == f.2).length = n) : potN L (Y ++ [f]) H' + 3 * n + 2 * H.length = potN L Y H + 2 * H'.length := by
  have h := filter_told L Y f ht
  unfold potN
  omega
/-- Y are all the nodes that are reached, the nearest first. -/
structure AllNear (N : Int) (L : List (Int × Int × Int)) (s : Int) (Y : List It) : Prop where
  ids : (Y.map (·.2)).Nodup
  inY : ∀ y ∈ Y, 0 ≤ y.2 ∧ y.2 < N
  keyY : ∀ y ∈ Y, 0 ≤ y.1
  sorted : Y.Pairwise fun a b => lessI a b = true
  start : ∃ z ∈ Y, z.2 = s ∧ z.1 ≤ 0
  fromY : ∀ y ∈ Y, (y.1 = 0 ∧ y.2 = s) ∨ ∃ u ∈ Y, ∃ a ∈ L, a.1 = u.2 ∧ a.2.1 = y.2 ∧ y.1 = u.1 + a.2.2
  arc : ∀ y ∈ Y, ∀ a ∈ L, a.1 = y.2 → ∃ z ∈ Y, z.2 = a.2.1 ∧ z.1 ≤ y.1 + a.2.2
theorem Near.all {N s : Int} {L : List (Int × Int × Int)} {Y : List It} {x : It} (h : Near N L s Y [] [] x) : AllNear N L s Y :=
  ⟨h.ids, h.inY, fun y hy => (h.keyY y hy).1, h.sorted, h.start.elim (fun h' => absurd h' (by simp)) id, h.fromY, fun y hy a ha hay => by
    rcases h.arc y hy a ha hay with h' | h' | h'
    · simp at h'
    · simp at h'
    · exact h'⟩
/-- All others come behind those that are told so far. -/
theorem Near.complete {N s : Int} {L : List (Int × Int × Int)} (hL : ArcsIn N L) : ∀ (n : Nat) (Y H : List It) (R : List (Int × Int × Int)) (x : It), Near N L s Y H R x →
    2 * H.length + 3 * R.length + 3 * (L.filter fun a => !(toldB Y a.1)).length = n → ∃ Z, AllNear N L s (Y ++ Z) := by
  intro n
  induction n using Nat.strongRecOn with
  | ind n ih =>
    intro Y H R x h hn
    rcases R with _ | ⟨a, R⟩
    · rcases H with _ | ⟨f, t⟩
      · exact ⟨[], by simpa using h.all⟩
      · have hl : (downI (cutI (f :: t)) 0).length = t.length := by rw [downI_len, cutI_len]; simp
        by_cases ht : toldB Y f.2 = true
        · refine ih _ ?_ _ _ _ _ (h.skip hL ht x) rfl
          rw [hl]
          simp at hn ⊢
          omega
        · have ht' : toldB Y f.2 = false := by simpa using ht
          have hf := filter_told L Y f ht'
          obtain ⟨Z, hZ⟩ := ih _ (by rw [hl]; simp at hn ⊢; omega) _ _ _ _ (h.tell hL ht') rfl
          exact ⟨f :: Z, by simpa using hZ⟩
    · refine ih _ ?_ _ _ _ _ (h.push hL) rfl
      rw [upI_len]
      simp at hn ⊢
      omega

/-- The key of a node among those that are told; -1: it isn't. -/
def keyOf (Y : List It) (v : Int) : Int := match Y.find? fun y => y.2 == v with | some y => y.1 | none => -1
theorem keyOf_no {Y : List It} {v : Int} (h : ∀ y ∈ Y, y.2 ≠ v) : keyOf Y v = -1 := by
  unfold keyOf
  rw [List.find?_eq_none.2 fun y hy => by simpa using h y hy]
theorem keyOf_yes {Y : List It} (hi : (Y.map (·.2)).Nodup) {y : It} (hy : y ∈ Y) : keyOf Y y.2 = y.1 := by
  unfold keyOf
  cases hf : Y.find? (fun z => z.2 == y.2) with
  | none =>
    have := List.find?_eq_none.1 hf y hy
    simp at this
  | some z =>
    have h1 := List.mem_of_find?_eq_some hf
    have h2 := List.find?_some hf
    have h3 : z.2 = y.2 := by simpa using h2
    obtain ⟨i, hi', rfl⟩ := List.mem_iff_getElem.1 hy
    obtain ⟨j, hj, rfl⟩ := List.mem_iff_getElem.1 h1
    have e : (Y.map (·.2))[j]'(by simpa using hj) = (Y.map (·.2))[i]'(by simpa using hi') := by
      simp only [List.getElem_map]
      exact h3
    have := (List.getElem_inj hi).1 e
    subst this
    rfl
theorem keyOf_snoc {Y : List It} {x : It} (hx : toldB Y x.2 = false) (v : Int) : keyOf (Y ++ [x]) v = if v = x.2 then x.1 else keyOf Y v := by
  unfold keyOf
  rw [List.find?_append]
  by_cases e : v = x.2
  · subst e
    rw [if_pos rfl, List.find?_eq_none.2 fun y hy => by simpa using toldB_no.1 hx y hy]
    simp
  · rw [if_neg e]
    have : ([x].find? fun y => y.2 == v) = none := by
      rw [List.find?_eq_none]
      intro y hy
      simp at hy
      subst hy
      simpa using fun e' => e e'.symm
    rw [this, Option.or_none]
theorem keyOf_told {Y : List It} {v : Int} (h : 0 ≤ keyOf Y v) : ∃ y ∈ Y, y.2 = v ∧ keyOf Y v = y.1 := by
  unfold keyOf at h ⊢
  cases hf : Y.find? (fun z => z.2 == v) with
  | none => rw [hf] at h; simp at h
  | some z =>
    have h2 := List.find?_some hf
    exact ⟨z, List.mem_of_find?_eq_some hf, by simpa using h2, rfl⟩
/-- The keys of the first n nodes. -/
def keysL (n : Nat) (Y : List It) : List Int := (List.range n).map fun (i : Nat) => keyOf Y (i : Int)
theorem keysL_len (n : Nat) (Y : List It) : (keysL n Y).length = n := by simp [keysL]
theorem keysL_at {n : Nat} {Y : List It} {v : Int} (h0 : 0 ≤ v) (h1 : v < n) : dAt (keysL n Y) v = keyOf Y v := by
  unfold dAt keysL
  rw [List.getD_eq_getElem?_getD, List.getElem?_map, List.getElem?_range (by omega)]
  simp only [Option.map_some, Option.getD_some]
  rw [show ((v.toNat : Nat) : Int) = v from by omega]
theorem keysL_snoc {n : Nat} {Y : List It} {x : It} (hx : toldB Y x.2 = false) (h0 : 0 ≤ x.2) : keysL n (Y ++ [x]) = (keysL n Y).set x.2.toNat x.1 := by
  refine List.ext_getElem (by simp [keysL_len]) fun i h1 h2 => ?_
  rw [List.getElem_set]
  simp only [keysL, List.getElem_map, List.getElem_range]
  rw [keyOf_snoc hx]
  by_cases e : (i : Int) = x.2
  · rw [if_pos e, if_pos (by omega)]
  · rw [if_neg e, if_neg (by omega)]
theorem keysL_take {n m : Nat} {Y : List It} (h : n ≤ m) : (keysL m Y).take n = keysL n Y := by
  refine List.ext_getElem (by simp [keysL_len]; omega) fun i h1 h2 => ?_
  simp [keysL]
/-- Which of the first n nodes are told. -/
def toldL (n : Nat) (Y : List It) : List Bool := (List.range n).map fun (i : Nat) => toldB Y (i : Int)
theorem toldL_len (n : Nat) (Y : List It) : (toldL n Y).length = n := by simp [toldL]
theorem toldL_at {n : Nat} {Y : List It} {v : Int} (h0 : 0 ≤ v) (h1 : v.toNat < (toldL n Y).length) : (toldL n Y)[v.toNat] = toldB Y v := by
  simp only [toldL, List.getElem_map, List.getElem_range]
  rw [show ((v.toNat : Nat) : Int) = v from by omega]
theorem toldL_snoc {n : Nat} {Y : List It} {x : It} (h0 : 0 ≤ x.2) : toldL n (Y ++ [x]) = (toldL n Y).set x.2.toNat true := by
  refine List.ext_getElem (by simp [toldL_len]) fun i h1 h2 => ?_
  rw [List.getElem_set]
  simp only [toldL, List.getElem_map, List.getElem_range]
  rw [toldB_snoc]
  by_cases e : x.2.toNat = i
  · rw [if_pos e, show (x.2 == (i : Int)) = true from by simp; omega]
    simp
  · rw [if_neg e, show (x.2 == (i : Int)) = false from by simp; omega]
    simp

/-- The keys of the nodes that are told tell how far all nodes are. -/
theorem AllNear.dist {N s : Int} {L : List (Int × Int × Int)} {Y : List It} (hL : ArcsIn N L) (h : AllNear N L s Y) : IsDist N L s (keysL N.toNat Y) := by
  have hat : ∀ v, 0 ≤ v → v < N → dAt (keysL N.toNat Y) v = keyOf Y v := fun v h0 h1 => keysL_at h0 (by omega)
  have hlow : ∀ v, -1 ≤ keyOf Y v := fun v => by
    unfold keyOf
    split
    · have := h.keyY _ (List.mem_of_find?_eq_some (by assumption))
      omega
    · omega
  obtain ⟨z, hz, hzs, hz0⟩ := h.start
  have hzi := h.inY z hz
  have hzk := h.keyY z hz
  refine ⟨keysL_len _ _, fun v => ?_, ?_, fun a ha hu => ?_, fun v h0 h1 hp => ?_⟩
  · by_cases hv : 0 ≤ v
    · by_cases hvN : v < N
      · rw [hat v hv hvN]; exact hlow v
      · rw [dAt_out (by rw [keysL_len]; omega)]; omega
    · rw [dAt_neg (by omega), hat 0 (by omega) (by omega)]; exact hlow 0
  · rw [← hzs, hat z.2 hzi.1 hzi.2, keyOf_yes h.ids hz]
    omega
  · obtain ⟨a0, a1, a2, a3, a4, a5⟩ := hL a ha
    rw [hat a.1 a0 a1] at hu ⊢
    rw [hat a.2.1 a2 a3]
    obtain ⟨y, hy, hya, hyk⟩ := keyOf_told hu
    obtain ⟨u, hu', e1, e2⟩ := h.arc y hy a ha hya.symm
    rw [← e1, keyOf_yes h.ids hu']
    have := h.keyY u hu'
    omega
  · rw [hat v h0 h1] at hp ⊢
    obtain ⟨y, hy, hya, hyk⟩ := keyOf_told hp
    rcases h.fromY y hy with ⟨e1, e2⟩ | ⟨u, hu, a, ha, e1, e2, e3⟩
    · exact .inl (by rw [← hya, e2])
    · refine .inr ⟨a, ha, by rw [e2, hya], ?_, ?_⟩
      · have hi := h.inY u hu
        rw [e1, hat u.2 hi.1 hi.2, keyOf_yes h.ids hu]
        exact h.keyY u hu
      · have hi := h.inY u hu
        rw [e1, hat u.2 hi.1 hi.2, keyOf_yes h.ids hu, hyk, e3]
theorem AllNear.keys {N s : Int} {L : List (Int × Int × Int)} {Y : List It} (hL : ArcsIn N L) (hN : N ≤ 24) (h : AllNear N L s Y) : keysL N.toNat Y = distL N L s := by
  obtain ⟨z, hz, hzs, hz0⟩ := h.start
  have := h.inY z hz
  exact distL_of hL hN (by omega) (by omega) (h.dist hL)
/-- Just the nodes that are reached are told. -/
theorem AllNear.mem {N s : Int} {L : List (Int × Int × Int)} {Y : List It} (hL : ArcsIn N L) (hN : N ≤ 24) (h : AllNear N L s Y) (k v : Int) :
    (k, v) ∈ Y ↔ (0 ≤ v ∧ v < N) ∧ 0 ≤ k ∧ k = dAt (distL N L s) v := by
  rw [← h.keys hL hN]
  constructor
  · intro hy
    have hi := h.inY _ hy
    refine ⟨hi, h.keyY _ hy, ?_⟩
    rw [keysL_at hi.1 (by have := hi.2; show v < _; simp at this; omega)]
    exact (keyOf_yes h.ids hy).symm
  · rintro ⟨⟨h0, h1⟩, hk, e⟩
    rw [keysL_at h0 (by omega)] at e
    obtain ⟨y, hy, hyv, hyk⟩ := keyOf_told (Y := Y) (v := v) (by omega)
    have : y = (k, v) := by
      rw [e, hyk, ← hyv]
    rw [← this]
    exact hy

/-- What is known of the next one. -/
theorem NextFacts {N s : Int} {L : List (Int × Int × Int)} {pre Z : List It} {x : It} (hL : ArcsIn N L) (hN : N ≤ 24) (h : AllNear N L s (pre ++ x :: Z)) :
    (0 ≤ x.2 ∧ x.2 < N) ∧ (0 ≤ x.1 ∧ x.1 ≤ 23000) ∧ toldB pre x.2 = false ∧ (∀ y ∈ pre, lessI y x = true) ∧ x.1 = dAt (distL N L s) x.2 := by
  have hx : x ∈ pre ++ x :: Z := by simp
  obtain ⟨z, hz, hzs, hz0⟩ := h.start
  have hzi := h.inY z hz
  have hm := (h.mem hL hN x.1 x.2).1 hx
  refine ⟨h.inY x hx, ⟨h.keyY x hx, ?_⟩, ?_, ?_, hm.2.2⟩
  · rw [hm.2.2]
    exact (distL_is hL hN (by omega) (by omega) : IsDist N L s _).top hL hN (by omega) (by omega) x.2
  · rw [toldB_no]
    intro y hy e
    have := h.ids
    rw [List.map_append, List.nodup_append] at this
    exact this.2.2 y.2 (List.mem_map.2 ⟨y, hy, rfl⟩) x.2 (by simp) e
  · intro y hy
    exact (List.pairwise_append.1 h.sorted).2.2 y hy x (by simp)

end Go.Proofs.Ytffjpfanmnkmgaa

set_option linter.unusedSimpArgs false
set_option linter.unusedVariables false
namespace Go.Proofs.Ytffjpfanmnkmgaa
open Go.RowKit

/-- The same end where all goes well, and no other. -/
def NoOut (Q : Exit → Act → World → Prop) : Exit → Act → World → Prop
  | .normal, a, w => Q .normal a w
  | _, _, _ => False
theorem NoOut.normal {Q : Exit → Act → World → Prop} {a : Act} {w : World} (h : Q .normal a w) : NoOut Q .normal a w := h
theorem NoOut.not {Q : Exit → Act → World → Prop} : ¬ LetsOut (NoOut Q) := fun ⟨_, _, h⟩ => h

section
variable {P : Program} {Q : Exit → Act → World → Prop} {K K' : Act → World → Prop} {a : Act} {w : World} {ops : Array Oper} {md : Region.Mode}
theorem upon_wide {o : Oper} {r : Result Next} (hk : ∀ a w, K a w → K' a w) (h : o.upon P a K (NoOut Q) r) : o.uponIn Fence.wide 0 P a K' Q r := by
  cases r with
  | ok x w' =>
    cases x <;> simp only [Oper.upon, Oper.uponIn] at h ⊢
    case value v => exact hk _ _ h
    case skip => exact hk _ _ h
    case defer d => exact hk _ _ h
    case enter f args =>
      refine ⟨fun h => by simp [Fence.wide] at h, callsIn_wide.2 (Calls.mono h fun e w'' he => ?_)⟩
      cases e with
      | returned v => exact hk _ _ he
      | panicked c => exact absurd he id
      | outgrown => exact absurd he NoOut.not
    case row row args =>
      refine ⟨fun h => by simp [Fence.wide] at h, fun c cs _ => ?_⟩
      obtain ⟨v, w2, hr, hs⟩ := h c cs
      exact ⟨v, w2, hk _ _ hr, stepsIn_wide.2 hs⟩
  | halt x w' =>
    cases x <;> simp only [Oper.upon, Oper.uponIn] at h ⊢
    case panic v => exact absurd h id

theorem wpOp_wide {i : Nat} (hk : ∀ a w, K a w → K' a w) (h : wpOp P ops (NoOut Q) i K a w) : wpOpIn Fence.wide 0 P ops Q i K' a w := by
  unfold wpOp at h
  unfold wpOpIn
  cases hi : ops[i]? with
  | none => rw [hi] at h; exact hk _ _ h
  | some o =>
    rw [hi] at h
    simp only at h ⊢
    split
    · rename_i hw
      rw [if_pos hw] at h
      refine ⟨fun _ _ => trivial, ?_⟩
      rcases h with h | h
      · have hr : Fence.wide.round = none := rfl
        rw [hr, Oper.semAt_none]
        exact upon_wide hk h
      · exact absurd h.2 NoOut.not
    · rename_i hw
      rw [if_neg hw] at h
      exact ⟨fun _ _ => trivial, hk _ _ h⟩
theorem wpAny_wide : ∀ (fuel : Nat) (listed : Array Bool) (a : Act) (w : World), wpAny P md ops (NoOut Q) fuel listed a w → wpAnyIn Fence.wide 0 P md ops Q fuel listed a w
  | 0, listed, a, w, h => h
  | fuel + 1, listed, a, w, h => ⟨h.1, fun i hi => wpOp_wide (fun a w => wpAny_wide fuel _ a w) (h.2 i hi)⟩

theorem wpIn_region_held {S : World → Prop} {id : Nat} (hm : P.follows .mixedOrders = true) (hS : S w.drew)
    (h : S w.drew → wpAnyH P .any ops (NoOut Q) S ops.size (Array.replicate ops.size false) a w.drew) : (Code.region id ops true).wpIn Fence.wide 0 P Q a w :=
  wpIn_region_any hm (wpAny_wide _ _ _ _ (wpAny_of_held _ _ _ _ (h hS)))
end

theorem wpListIn_append_any {F : Fence} {n : Nat} {P : Program} (w : World) {ops : Array Oper} {rest : List Oper} {o : Oper} {a : Act} {Q : Exit → Act → World → Prop} (hgd : o.guard = none) (s x : Operand) (t : TypeId)
    (ho : o.op = .call { callee := .builtin .append, args := #[s, x], argTypes := #[t, t] })
    (base : Nat) (e : TypeId) (i : TypeInfo) (z : Value) (size bytes : Nat) (ht : P.underlying t = some (.slice e)) (hi : P.info? e = some i) (hz : i.zero = some z)
    (hsize : i.size = size) (hby : i.bytes = bytes) (hzs : z.cells.size = size) (hsz : 0 < size)
    (v : Value) (k : Nat) (xs : List Value) (hs : a.eval s = v) (hown : w.ownsRow base e size v k xs)
    (B : Nat) (A : Option Addr) (m c : Nat) (news : List Value) (hx : a.eval x = .slice A m c) (hr : Reads w B size A m news) (h1 : ∀ u ∈ news, u.oneCell' = true)
    (h63 : k + m ≤ maxLen) (hbytes : (k + m) * bytes ≤ 140737488355328) (hbase : base ≤ w.heap.size)
    (h : ∀ v' w', w'.ownsRow base e size v' (k + m) (xs ++ news) → w.grownBy w' v.ownBlock → (v'.ownBlock = v.ownBlock ∨ v'.ownBlock = some w.heap.size) → wpListIn F n P ops Q rest (a.put o.dst v') w') : wpListIn F n P ops Q (o :: rest) a w := by
  refine wpListIn_plain hgd fun K hK' => ?_
  obtain ⟨v', w', hrun, h2, h3, h4⟩ := run_append_any (P := P) w base t o.type e i z size bytes ht hi hz hsize hby hzs hsz v k xs hown B A m c news hr h1 h63 hbytes hbase
  unfold Oper.wpIn
  refine ⟨?_, ?_⟩
  · simp [Oper.about, ho, resolve, Target.leads, Sem.run_pure]
  · rw [Oper.semAt_plain F _ _ (by rw [ho]; intro c hc'; cases hc')]
    simp [execOp, ho, resolve, invoke, builtin, hs, hx, hrun, Result.andThen]
    exact hK' _ _ (h v' w' h2 h3 h4)

end Go.Proofs.Ytffjpfanmnkmgaa

set_option linter.unusedSimpArgs false
set_option linter.unusedVariables false
namespace Go.Proofs.Ytffjpfanmnkmgaa
open Go.RowKit

theorem ArcsAt.turn {w w' : World} {B : Nat} {A : Option Addr} {L : List Arc3} {S : Nat → Prop} (h : ArcsAt w B A L) (hB : B ≤ w.heap.size) (k : Turn S w w') (hS : 0 < L.length → ∀ g, blockOf A = some g → ¬ S g) : ArcsAt w' B A L := fun h0 => by
  obtain ⟨g, off, rfl, hg, hc⟩ := h h0
  have hb := fun o => (k.cells (show g < w.heap.size by omega) (hS h0 g rfl) o).1
  exact ⟨g, off, rfl, hg, fun j hj => by rw [hb, hb, hb]; exact hc j hj⟩
theorem HBox.turn {w w' : World} {hb : Nat} {v : Value} {S : Nat → Prop} (h : HBox w hb v) (k : Turn S w w') (hS : ¬ S hb) : HBox w' hb v := by
  have hl := h.lt
  obtain ⟨h0, h1, h2⟩ := h
  exact ⟨(k.cells hl hS 0).1.trans h0, (k.cells hl hS 1).1.trans h1, (k.cells hl hS 0).2.trans h2⟩
theorem RowI.turn {w w' : World} {g n c : Nat} {L : List It} {S : Nat → Prop} (h : RowI w g n c L) (k : Turn S w w') (hS : ¬ S g) : RowI w' g n c L :=
  ⟨Owns.turn h.1 k (fun g' e => by have e' : g = g' := by simpa [Value.ownBlock] using e
                                   rw [← e']; exact hS), h.2⟩

/-- Which nodes are told, in an array of 24. -/
structure ToldAt (w : World) (tb : Nat) (Y : List It) : Prop where
  lt : tb < w.heap.size
  cell : ∀ i : Nat, i < 24 → w.cell? ⟨tb, i, none⟩ = some (.bool (toldB Y (i : Int)))
  free : ∀ i : Nat, i < 24 → w.frozen? ⟨tb, i, none⟩ = false
theorem ToldAt.turn {w w' : World} {tb : Nat} {Y : List It} (h : ToldAt w tb Y) {S : Nat → Prop} (k : Turn S w w') (hS : ¬ S tb) : ToldAt w' tb Y :=
  ⟨Nat.lt_of_lt_of_le h.lt k.size, fun i hi => (k.cells h.lt hS i).1.trans (h.cell i hi), fun i hi => (k.cells h.lt hS i).2.trans (h.free i hi)⟩
theorem ToldAt.set {w : World} {tb : Nat} {Y : List It} (h : ToldAt w tb Y) {k : Int} {u : Nat} (hu : u < 24) : ToldAt (w.setCell ⟨tb, u, none⟩ (.bool true)) tb (Y ++ [(k, (u : Int))]) := by
  refine ⟨by simpa using h.lt, fun i hi => ?_, fun i hi => by rw [World.frozen?_setCell]; exact h.free i hi⟩
  rw [toldB_snoc]
  by_cases e : i = u
  · subst e
    rw [World.cell?_setCell_same' _ _ _ (by rw [h.cell i hi]; rfl)]
    simp
  · rw [World.cell?_setCell_other _ _ _ _ (by intro e'; injection e' with _ e2; exact e e2.symm), h.cell i hi]
    have : (((u : Int)) == (i : Int)) = false := by simp; omega
    simp [this]

/-- The state of the iterator: it began in world W; K: the blocks of its caller. -/
structure NSt (W : World) (K0 : Nat → Prop) (tb hb : Nat) (Y H : List It) (K : Nat → Prop) (g c : Nat) (wr : World) : Prop where
  told : ToldAt wr tb Y
  row : RowI wr g H.length c H
  box : HBox wr hb (.slice (some ⟨g, 0, none⟩) H.length c)
  ne : hb ≠ g ∧ tb ≠ hb ∧ tb ≠ g
  lo : W.heap.size ≤ tb ∧ W.heap.size ≤ hb ∧ W.heap.size ≤ g
  own : ¬ K tb ∧ ¬ K hb ∧ ¬ K g
  step : Step K0 K W wr
section
variable {W : World} {K0 : Nat → Prop} {tb hb : Nat} {Y H : List It} {K K' : Nat → Prop} {g c : Nat} {wr w' : World}
theorem Step.turn (h : Step K0 K W wr) {S : Nat → Prop} (t : Turn S wr w') (hS : ∀ i, S i → W.heap.size ≤ i) : Step K0 K W w' :=
  ⟨h.1.trans t (fun i hi h' => absurd (hS i h') (by omega)), h.2⟩
theorem NSt.bl (h : NSt W K0 tb hb Y H K g c wr) (b : Bl wr w') : NSt W K0 tb hb Y H K g c w' :=
  ⟨h.told.turn (Turn.of_bl (S := fun _ => False) b) id, h.row.bl b, h.box.bl h.box.lt b, h.ne, h.lo, h.own, h.step.turn (Turn.of_bl (S := fun _ => False) b) (fun _ h => h.elim)⟩
/-- What a round of the caller's leaves. -/
theorem NSt.round (h : NSt W K0 tb hb Y H K g c wr) (s : Step K K' wr w') : NSt W K0 tb hb Y H K' g c w' := by
  obtain ⟨o1, o2, o3⟩ := h.own
  have hg := h.row.cells.2.1
  exact ⟨h.told.turn s.1 o1, h.row.turn s.1 o3, h.box.turn s.1 o2, h.ne, h.lo, ⟨s.out h.told.lt o1, s.out h.box.lt o2, s.out hg o3⟩, h.step.trans s⟩
theorem NSt.pop (h : NSt W K0 tb hb Y H K g c wr) {M : List It} (hR : RowI w' g M.length c M) (hH : HBox w' hb (.slice (some ⟨g, 0, none⟩) M.length c)) (t : Turn (fun k => k = hb ∨ k = g) wr w') : NSt W K0 tb hb Y M K g c w' := by
  obtain ⟨n1, n2, n3⟩ := h.ne
  obtain ⟨l1, l2, l3⟩ := h.lo
  exact ⟨h.told.turn t (fun h => h.elim n2 n3), hR, hH, h.ne, h.lo, h.own, h.step.turn t (fun i hi => by rcases hi with rfl | rfl <;> assumption)⟩
theorem NSt.push (h : NSt W K0 tb hb Y H K g c wr) (hk : ∀ i, K i → i < wr.heap.size) {M : List It} {g' c' : Nat} (hM : 0 < M.length) (hI : HeapIn w' W.heap.size hb (.slice (some ⟨g', 0, none⟩) M.length c') M)
    (t : Turn (fun k => k = hb ∨ some k = some g) wr w') (hg' : some g = some g' ∨ wr.heap.size ≤ g') : NSt W K0 tb hb Y M K g' c' w' := by
  obtain ⟨n1, n2, n3⟩ := h.ne
  obtain ⟨l1, l2, l3⟩ := h.lo
  obtain ⟨o1, o2, o3⟩ := h.own
  have ht := h.told.lt
  obtain ⟨q1, q2, q3, q4⟩ := hI
  obtain ⟨A', c1, e, -, -, -, -⟩ := Owns.shape q2
  have hR : RowI w' g' M.length c' M := ⟨Owns.self_ q2, rfl⟩
  have hlo : W.heap.size ≤ g' := (Owns.lt_ q2 g' rfl).1
  have hne : hb ≠ g' := fun e => q4 (by rw [e]; rfl)
  have hg2 : tb ≠ g' := by
    rcases hg' with e | e
    · injection e with e; rw [← e]; exact n3
    · omega
  have ho : ¬ K g' := by
    rcases hg' with e | e
    · injection e with e; rw [← e]; exact o3
    · exact fun h' => absurd (hk g' h') (by omega)
  refine ⟨h.told.turn t (fun h => h.elim n2 (fun e => n3 (by injection e))), hR, q1, ⟨hne, n2, hg2⟩, ⟨l1, l2, hlo⟩, ⟨o1, o2, ho⟩, h.step.turn t (fun i hi => ?_)⟩
  rcases hi with rfl | e
  · exact l2
  · injection e with e; rw [e]; exact l3
theorem NSt.tell (h : NSt W K0 tb hb Y H K g c wr) {k : Int} {u : Nat} (hu : u < 24) : NSt W K0 tb hb (Y ++ [(k, (u : Int))]) H K g c (wr.setCell ⟨tb, u, none⟩ (.bool true)) := by
  obtain ⟨n1, n2, n3⟩ := h.ne
  obtain ⟨l1, l2, l3⟩ := h.lo
  have t : Turn (fun k => k = tb) wr (wr.setCell ⟨tb, u, none⟩ (.bool true)) := Turn.set (p := ⟨tb, u, none⟩) (Turn.refl (fun k => k = tb) wr) (.inl rfl) _
  exact ⟨h.told.set hu, h.row.turn t (fun e => n3 e.symm), h.box.turn t (fun e => n2 e.symm), h.ne, h.lo, h.own, h.step.turn t (fun i hi => by rw [hi]; exact l1)⟩
/-- A change to other blocks that the iterator has made. -/
theorem NSt.aside (h : NSt W K0 tb hb Y H K g c wr) {S : Nat → Prop} (t : Turn S wr w') (h1 : ¬ S tb) (h2 : ¬ S hb) (h3 : ¬ S g) (h4 : ∀ i, S i → W.heap.size ≤ i) : NSt W K0 tb hb Y H K g c w' :=
  ⟨h.told.turn t h1, h.row.turn t h3, h.box.turn t h2, h.ne, h.lo, h.own, h.step.turn t h4⟩
/-- A change to the iterator's own blocks is none to those of its caller. -/
theorem NSt.other (h : NSt W K0 tb hb Y H K g c wr) {S : Nat → Prop} {a b : World} (t : Turn S a b) (hS : ∀ i, S i → i = tb ∨ i = hb ∨ i = g) : Turn (fun i => ¬ K i) a b := by
  obtain ⟨o1, o2, o3⟩ := h.own
  refine t.more fun i _ hi => ?_
  rcases hS i hi with rfl | rfl | rfl <;> assumption
theorem NSt.heapIn (h : NSt W K0 tb hb Y H K g c wr) : HeapIn wr W.heap.size hb (.slice (some ⟨g, 0, none⟩) H.length c) H := by
  obtain ⟨n1, n2, n3⟩ := h.ne
  obtain ⟨l1, l2, l3⟩ := h.lo
  exact ⟨h.box, Owns.at_base h.row.1 l3, l2, fun e => n1 (by have e' : g = hb := by simpa [Value.ownBlock] using e
                                                             exact e'.symm)⟩
end

/-- What the iterator reads: the node and the graph, in boxes. -/
structure NIn (w : World) (lb sb gb : Nat) (N s : Int) (A : Option Addr) (n c : Nat) (L : List Arc3) : Prop where
  left : w.cell? ⟨lb, 0, none⟩ = some (.func (.func 145) #[] #[])
  start : w.cell? ⟨sb, 0, none⟩ = some (.int .i64 s)
  size : w.cell? ⟨gb, 0, none⟩ = some (.int .i64 N)
  list : w.cell? ⟨gb, 1, none⟩ = some (.slice A n c)
  arcs : ArcsAt w w.heap.size A L
/-- The blocks that it reads. -/
def inBlocks (lb sb gb : Nat) (A : Option Addr) (L : List Arc3) (i : Nat) : Prop := i = lb ∨ i = sb ∨ i = gb ∨ (0 < L.length ∧ blockOf A = some i)
theorem NIn.turn {w w' : World} {lb sb gb : Nat} {N s : Int} {A : Option Addr} {n c : Nat} {L : List Arc3} (h : NIn w lb sb gb N s A n c L) {S : Nat → Prop} (t : Turn S w w') (hS : ∀ i, S i → ¬ inBlocks lb sb gb A L i) : NIn w' lb sb gb N s A n c L := by
  have l0 := World.block_lt_of_cell? _ _ h.left
  have l1 := World.block_lt_of_cell? _ _ h.start
  have l2 := World.block_lt_of_cell? _ _ h.size
  have s0 : ¬ S lb := fun e => hS _ e (.inl rfl)
  have s1 : ¬ S sb := fun e => hS _ e (.inr (.inl rfl))
  have s2 : ¬ S gb := fun e => hS _ e (.inr (.inr (.inl rfl)))
  exact ⟨(t.cells l0 s0 0).1.trans h.left, (t.cells l1 s1 0).1.trans h.start, (t.cells l2 s2 0).1.trans h.size, (t.cells l2 s2 1).1.trans h.list,
    (h.arcs.turn (Nat.le_refl _) t (fun hl g hg e => hS g e (.inr (.inr (.inr ⟨hl, hg⟩))))).more t.size⟩

theorem inBlocks_lt {w : World} {lb sb gb : Nat} {N s : Int} {A : Option Addr} {n c : Nat} {L : List Arc3} (h : NIn w lb sb gb N s A n c L) {i : Nat} (hi : inBlocks lb sb gb A L i) : i < w.heap.size := by
  rcases hi with rfl | rfl | rfl | ⟨hl, hi⟩
  · exact World.block_lt_of_cell? _ _ h.left
  · exact World.block_lt_of_cell? _ _ h.start
  · exact World.block_lt_of_cell? _ _ h.size
  · obtain ⟨g, off, rfl, hg, -⟩ := h.arcs hl
    have : g = i := by simpa [blockOf] using hi
    omega

end Go.Proofs.Ytffjpfanmnkmgaa

set_option linter.unusedSimpArgs false
set_option linter.unusedVariables false
namespace Go.Proofs.Ytffjpfanmnkmgaa
open Go.RowKit Go.Shelf
attribute [local go_sem] Oper.semAt_some

/-- What may come next. -/
def NextNear (N : Int) (L : List Arc3) (s : Int) (pre : List It) (x : It) : Prop := ∃ Z, AllNear N L s (pre ++ x :: Z)
def PartNear (N : Int) (L : List Arc3) (s : Int) (pre : List It) : Prop := ∃ Z, AllNear N L s (pre ++ Z)
def encI (x : It) : Array Value := #[.agg #[.int .i64 x.1, .int .i64 x.2]]

theorem left0_any (v : Int) (w : World) : Calls Try.prog 145 #[.int .i64 v] w fun e w' => e = .returned (.int .i64 0) ∧ w' = w := by
  go_enter Try.func145, Try.ntmps145
  go_wp2
  go_ret
  exact ⟨rfl, rfl⟩

set_option maxRecDepth 100000 in
set_option maxHeartbeats 4000000 in
theorem nearest_walk (N s : Int) (A : Option Addr) (n c lb sb gb : Nat) (L : List Arc3) (hn : n = L.length) (hc : n ≤ c) (ho : okB N L = true) (h0 : 0 ≤ s) (h1 : s < N)
    (l : Nat) (J Jx : List It → (Nat → Prop) → World → Prop) (K0 : Nat → Prop) (W : World) (hI : NIn W lb sb gb N s A n c L)
    (hJ : ∀ pre K A B, J pre K A → Turn (fun i => ¬ K i) A B → J pre K B) (hJx : ∀ pre K A B, Jx pre K A → Turn (fun i => ¬ K i) A B → Jx pre K B) (hlt : ∀ pre K A, J pre K A → ∀ i, K i → i < A.heap.size)
    (hK0 : ∀ i, K0 i → ¬ inBlocks lb sb gb A L i)
    (hY : ∀ pre x K W1, J pre K W1 → NextNear N L s pre x → YieldAt Fence.wide 0 Try.prog l (encI x) W1 fun e W' => ∃ K', Step K K' W1 W' ∧
      ((e = .returned (.bool true) ∧ J (pre ++ [x]) K' W') ∨ (e = .returned (.bool false) ∧ Jx (pre ++ [x]) K' W')))
    (hJ0 : J [] K0 W) :
    CallsIn Fence.wide 0 Try.prog 157 #[.func (.yield l) #[] #[], .pointer (some ⟨lb, 0, none⟩), .pointer (some ⟨sb, 0, none⟩), .pointer (some ⟨gb, 0, none⟩)] W fun e W' => (∃ v, e = .returned v) ∧ ∃ K', Step K0 K' W W' ∧
      ((∃ xs, AllNear N L s xs ∧ J xs K' W') ∨ (∃ pre, PartNear N L s pre ∧ Jx pre K' W')) := by
  have HI := Lib.hid hI
  have HJ := Lib.hid hJ
  have HJX := Lib.hid hJx
  have HLT := Lib.hid hlt
  have HK := Lib.hid hK0
  have HY := Lib.hid hY
  have HN := Lib.hid hn
  have HO := Lib.hid ho
  have HJ0 := Lib.hid hJ0
  obtain ⟨ql, q0, q1, q2, -⟩ := hI
  have hlb := World.block_lt_of_cell? _ _ ql
  have hsb := World.block_lt_of_cell? _ _ q0
  have hgb := World.block_lt_of_cell? _ _ q1
  simp only at hlb hsb hgb
  clear hJ hJx hlt hK0 hY hn ho hJ0
  refine callsIn_of_wp Try.func157 rfl trivial ?_ rfl
  simp only [Try.ntmps157, List.size_toArray, List.length_cons, List.length_nil, Nat.reduceAdd, Nat.reduceSub, Array.replicate_succ, Array.replicate_zero, List.push_toArray, List.append_toArray, List.nil_append, List.cons_append]
  gi_wp2_with fail
  refine wpIn_region_held (S := fun wx => wx.cell? ⟨lb, 0, none⟩ = some (.func (.func 145) #[] #[]) ∧ wx.cell? ⟨sb, 0, none⟩ = some (.int .i64 s)) (by kernel_rfl) ?_ (fun hHeld => ?_)
  · (first | (refine ⟨?_, ?_⟩ <;> (simp [go_sem, *]; done)) | exact ⟨(hT1.cells (g := lb) (by simp; omega) (by rintro (h | h); omega; simp [Value.ownBlock] at h) 0).1.trans (by simp [go_sem, *]), (hT1.cells (g := sb) (by simp; omega) (by rintro (h | h); omega; simp [Value.ownBlock] at h) 0).1.trans (by simp [go_sem, *])⟩)
  refine wpAnyH_take (i := 0) (v := ?_) rfl (by kernel_rfl) (by kernel_rfl) (by kernel_rfl) (fun _ _ _ h => h) (Or.inl ⟨by kernel_rfl, ?_⟩) (by assumption) ?_
  rotate_left
  · (intro wx hSw; (try dsimp only at hSw); go_simp; try (with_reducible rfl))
  try simp only [Act.put, List.getElem_toArray, List.getElem_cons_succ, List.getElem_cons_zero, List.setIfInBounds_toArray, List.set_cons_zero, List.set_cons_succ]
  refine wpAnyH_take (i := 1) (v := ?_) rfl (by kernel_rfl) (by kernel_rfl) (by kernel_rfl) (fun _ _ _ h => h) (Or.inl ⟨by kernel_rfl, ?_⟩) (by assumption) ?_
  rotate_left
  · (intro wx hSw; (try dsimp only at hSw); go_simp; try (with_reducible rfl))
  try simp only [Act.put, List.getElem_toArray, List.getElem_cons_succ, List.getElem_cons_zero, List.setIfInBounds_toArray, List.set_cons_zero, List.set_cons_succ]
  refine wpAnyH_take (i := 2) (v := ?_) rfl (by kernel_rfl) (by kernel_rfl) (by kernel_rfl) (fun _ _ _ h => h) (Or.inl ⟨by kernel_rfl, ?_⟩) (by assumption) ?_
  rotate_left
  · (intro wx hSw; (try dsimp only at hSw); go_simp; try (with_reducible rfl))
  try simp only [Act.put, List.getElem_toArray, List.getElem_cons_succ, List.getElem_cons_zero, List.setIfInBounds_toArray, List.set_cons_zero, List.set_cons_succ]
  refine wpAnyH_take (i := 4) (v := ?_) rfl (by kernel_rfl) (by kernel_rfl) (by kernel_rfl) (fun _ _ _ h => h) (Or.inl ⟨by kernel_rfl, ?_⟩) (by assumption) ?_
  rotate_left
  · (intro wx hSw; (try dsimp only at hSw); go_simp; try (with_reducible rfl))
  try simp only [Act.put, List.getElem_toArray, List.getElem_cons_succ, List.getElem_cons_zero, List.setIfInBounds_toArray, List.set_cons_zero, List.set_cons_succ]
  refine wpAnyH_ready (rs := [3]) (by kernel_rfl) (by simp) ?_
  refine AllReadyH.cons rfl (fun K hK => ?_) AllReadyH.nil
  go_simp
  (go_at_call 145; refine (left0_any _ _).mono ?_; rintro e w_ ⟨rfl, rfl⟩)
  try (go_wp2_with fail)
  refine hK.out _ _ ?_ (fun hHeld => ?_)
  · (first | (refine ⟨?_, ?_⟩ <;> (simp [go_sem, *]; done)) | exact ⟨(hT1.cells (g := lb) (by simp; omega) (by rintro (h | h); omega; simp [Value.ownBlock] at h) 0).1.trans (by simp [go_sem, *]), (hT1.cells (g := sb) (by simp; omega) (by rintro (h | h); omega; simp [Value.ownBlock] at h) 0).1.trans (by simp [go_sem, *])⟩)
  clear hK K
  try simp only [Act.put, List.getElem_toArray, List.getElem_cons_succ, List.getElem_cons_zero, List.setIfInBounds_toArray, List.set_cons_zero, List.set_cons_succ]
  refine wpAnyH_take (i := 5) (v := ?_) rfl (by kernel_rfl) (by kernel_rfl) (by kernel_rfl) (fun _ _ _ h => h) (Or.inl ⟨by kernel_rfl, ?_⟩) (by assumption) ?_
  rotate_left
  · (intro wx hSw; (try dsimp only at hSw); go_simp; try (with_reducible rfl))
  try simp only [Act.put, List.getElem_toArray, List.getElem_cons_succ, List.getElem_cons_zero, List.setIfInBounds_toArray, List.set_cons_zero, List.set_cons_succ]
  refine wpAnyH_ready (rs := [6]) (by kernel_rfl) (by simp) ?_
  refine AllReadyH.cons rfl (fun K hK => ?_) AllReadyH.nil
  go_simp
  (go_at_call 110; refine (push_any W.heap.size (W.heap.size + 1) (.slice none 0 0) [] 0 s _ (by simp) ⟨⟨by simp [go_sem], by simp [go_sem], by simp [go_sem]⟩, Owns.nil_ _ _ _ _, by omega, by simp [Value.ownBlock]⟩ (by simp; omega)).mono ?_; rw [show upI ([] ++ [((0 : Int), s)]) ([] : List It).length = [(0, s)] from upI_zero _]; rintro e w1 ⟨rfl, g, c1, hH1, hT1, hg1⟩)
  try (go_wp2_with fail)
  refine hK.out _ _ ?_ (fun hHeld => ?_)
  · (first | (refine ⟨?_, ?_⟩ <;> (simp [go_sem, *]; done)) | exact ⟨(hT1.cells (g := lb) (by simp; omega) (by rintro (h | h); omega; simp [Value.ownBlock] at h) 0).1.trans (by simp [go_sem, *]), (hT1.cells (g := sb) (by simp; omega) (by rintro (h | h); omega; simp [Value.ownBlock] at h) 0).1.trans (by simp [go_sem, *])⟩)
  clear hK K
  try simp only [Act.put, List.getElem_toArray, List.getElem_cons_succ, List.getElem_cons_zero, List.setIfInBounds_toArray, List.set_cons_zero, List.set_cons_succ]
  refine wpAnyH_done (by kernel_rfl) ?_ _
  refine NoOut.normal ?_
  have hb1 : Bl W w1 := Turn.to_bl ((((Bl.refl W).alloc_ _).alloc_ _).drew_) hT1 (fun i hi => by
    rcases hi with h | h
    · omega
    · simp [Value.ownBlock] at h)
  have ht1 : ToldAt w1 W.heap.size [] := by
    have hx : ∀ o, w1.cell? ⟨W.heap.size, o, none⟩ = (W.alloc (.cells #[.bool false, .bool false, .bool false, .bool false, .bool false, .bool false, .bool false, .bool false, .bool false, .bool false, .bool false, .bool false, .bool false, .bool false, .bool false, .bool false, .bool false, .bool false, .bool false, .bool false, .bool false, .bool false, .bool false, .bool false] 111)).cell? ⟨W.heap.size, o, none⟩ ∧ w1.frozen? ⟨W.heap.size, o, none⟩ = false := fun o => by
      obtain ⟨a, b⟩ := hT1.cells (g := W.heap.size) (by simp; omega) (fun h => by
        rcases h with h | h
        · omega
        · simp [Value.ownBlock] at h) o
      rw [a, b]
      exact ⟨by simp [go_sem], by simp [go_sem]⟩
    refine ⟨Nat.lt_of_lt_of_le (by simp; omega) hT1.size, fun i hi => ?_, fun i hi => (hx i).2⟩
    rw [(hx i).1]
    match i, hi with
    | 0, _ | 1, _ | 2, _ | 3, _ | 4, _ | 5, _ | 6, _ | 7, _ | 8, _ | 9, _ | 10, _ | 11, _ | 12, _ | 13, _ | 14, _ | 15, _ | 16, _ | 17, _ | 18, _ | 19, _ | 20, _ | 21, _ | 22, _ | 23, _ => simp [go_sem, toldB]
    | (k + 24), h => exact absurd h (by omega)
  have hgl : W.heap.size + 1 ≠ g ∧ W.heap.size ≤ g ∧ W.heap.size ≠ g := by
    have hx := (Owns.lt_ hH1.2.1 g rfl)
    rcases hg1 with h | h
    · simp [Value.ownBlock] at h
    · simp at h; omega
  have hk0 := HLT.out [] K0 W HJ0.out
  have st1 : NSt W K0 W.heap.size (W.heap.size + 1) [] [(0, s)] K0 g c1 w1 :=
    ⟨ht1, ⟨Owns.self_ hH1.2.1, rfl⟩, hH1.1, ⟨hgl.1, by omega, hgl.2.2⟩, ⟨by omega, by omega, hgl.2.1⟩, ⟨fun h => by have := hk0 _ h; omega, fun h => by have := hk0 _ h; omega, fun h => by have := hk0 _ h; omega⟩,
      ⟨Turn.of_bl hb1, fun i h => .inl h⟩⟩
  have ST := Lib.hid st1
  have J1 := Lib.hid (HJ.out [] K0 W w1 HJ0.out (Turn.of_bl hb1))
  have hsz : W.heap.size + 1 < w1.heap.size := st1.box.lt
  generalize W.heap.size + 1 = hb at *
  generalize htb : W.heap.size = tb at *
  clear hH1 hT1 hg1 ht1 hgl hk0 st1 hb1
  gi_wp2_with fail
  clear ql q0 q1 q2 hHeld
  gi_loopg [7] (potN L [] [(0, s)]) (fun k p wr => ∃ Y H K g c, Near N L s Y H [] (0, 0) ∧ potN L Y H ≤ k ∧ NSt W K0 tb hb Y H K g c wr ∧ J Y K wr)
  case atStart => exact ⟨[], [(0, s)], K0, g, c1, Near.start_ h0 h1 _, Nat.le_refl _, ST.out, J1.out⟩
  case round =>
    clear ST J1 hsz
    obtain ⟨Y, H, K, g, c', hnear, hpot, hst, hj⟩ := hrel
    have NE := Lib.hid hnear
    have ST := Lib.hid hst
    have J2 := Lib.hid hj
    have hbx := hst.box
    have hbl := hbx.lt
    have POT := Lib.hid hpot
    rcases H with _ | ⟨⟨x, y⟩, t⟩
    · obtain ⟨b0, b1, b2⟩ := hbx
      simp only [List.length_nil] at b0
      clear hnear hst hj hpot b1 b2
      gi_wp2_with fail
      go_end0
      exact ⟨⟨_, rfl⟩, K, ST.out.step, .inl ⟨Y, NE.out.all, J2.out⟩⟩
    · have hin := hnear.inH (x, y) (by simp)
      have hkey := hnear.keyH (x, y) (by simp)
      have hsm := hnear.small
      have hN24 := (okB_elim HO.out).2.1
      have hL150 := (okB_elim HO.out).2.2.1
      have hYl := hnear.told_le hN24
      simp only [List.length_cons, List.length_nil] at hin hkey hsm
      obtain ⟨u, rfl⟩ : ∃ u : Nat, y = u := ⟨y.toNat, by omega⟩
      have hu : u < 24 := by omega
      have hx0 : 0 ≤ x := hkey.1
      have hx1 : x ≤ 24000 := by omega
      have hut : ((u : Nat) : Int) < N := hin.2
      clear hin hkey hYl
      obtain ⟨b0, b1, b2⟩ := hbx
      simp only [List.length_cons] at b0
      have htl : tb < wr.heap.size := hst.told.lt
      clear hnear hst hj hpot b1 b2
      gi_wp2_with fail
      refine ⟨trivial, rfl, CallsIn.mono (callsIn_wide.2 (pop_any hb g t.length c' ((x, (u : Int)) :: t) _ (by omega) ST.out.row ST.out.box ST.out.ne.1)) ?_⟩
      rintro e w2 ⟨he, hR2, hB2, hT2⟩
      obtain rfl : e = .returned (.agg #[.int .i64 x, .int .i64 (u : Int)]) := he
      have hlen : (downI (cutI ((x, (u : Int)) :: t)) 0).length = t.length := by rw [downI_len, cutI_len]; simp
      generalize hM : downI (cutI ((x, (u : Int)) :: t)) 0 = M at hlen
      have hR2' : RowI w2 g M.length c' M := by rw [hlen, ← hM]; exact hR2
      have hB2' : HBox w2 hb (.slice (some ⟨g, 0, none⟩) M.length c') := by rw [hlen]; exact hB2
      have st2 := (ST.out.pop hR2' hB2' hT2)
      have ST2P := Lib.hid st2
      have J3 := HJ.out _ _ _ _ J2.out (ST.out.other hT2 (fun i hi => .inr hi))
      have JP := Lib.hid J3
      have hbX : Bl w2 (w2.alloc (.cells #[.int .i64 x, .int .i64 (u : Int)] 82)) := Bl.alloc_ (Bl.refl w2) _
      have ST2 := Lib.hid (st2.bl hbX)
      have HM := Lib.hid hM
      have HLN := Lib.hid hlen
      have hq := (st2.bl hbX).told.cell u hu
      have hqf := (st2.bl hbX).told.free u hu
      have htl2 := st2.told.lt
      have JH3 := Lib.hid (HJ.out _ _ _ _ J3 (Turn.of_bl hbX))
      have XN := Lib.hid (show (¬ K w2.heap.size ∧ ∀ i, K i → i < w2.heap.size) ∧ w2.heap.size ≠ tb ∧ w2.heap.size ≠ hb ∧ w2.heap.size ≠ g ∧ W.heap.size ≤ w2.heap.size from by
        have h2 := st2.told.lt
        have h3 := st2.box.lt
        have h4 := st2.row.cells.2.1
        exact ⟨⟨fun h => by have := HLT.out _ _ _ J3 _ h; omega, fun i h => HLT.out _ _ _ J3 _ h⟩, by omega, by omega, by omega, st2.step.1.size⟩)
      have in2 := HI.out.turn st2.step.1 (fun i hi => HK.out i hi)
      have LC := Lib.hid in2.left
      have hui : (0 : Int) ≤ (u : Int) ∧ (u : Int) < 24 := by omega
      obtain ⟨hu0, hu1⟩ := hui
      clear hR2 hB2 hT2 hR2' hB2' st2 J3 hM hlen b0 htl hbl hbX in2
      cases htold : toldB Y (u : Int) with
      | true =>
        rw [htold] at hq
        have TO := Lib.hid htold
        clear htold
        gi_wp2_with fail
        gi_roundg (potN L Y M)
        case rel => exact ⟨Y, M, K, g, c', by rw [← HM.out]; exact NE.out.skip (arcsIn_of_ok HO.out) TO.out _, Nat.le_refl _, ST2.out.bl (by repeat' (first | exact Bl.refl _ | with_reducible assumption | with_reducible refine Bl.drew_ ?_ | with_reducible refine Bl.drewN_ ?_ _ | with_reducible refine Bl.alloc_ ?_ _ | with_reducible refine Bl.trans_ ?_ (by assumption) | with_reducible refine Bl.trans_ ?_ (And.left (by assumption)))), HJ.out _ _ _ _ JH3.out (Turn.of_bl (by repeat' (first | exact Bl.refl _ | with_reducible assumption | with_reducible refine Bl.drew_ ?_ | with_reducible refine Bl.drewN_ ?_ _ | with_reducible refine Bl.alloc_ ?_ _ | with_reducible refine Bl.trans_ ?_ (by assumption) | with_reducible refine Bl.trans_ ?_ (And.left (by assumption)))))⟩
        case measure =>
          have h1 := POT.out
          have h2 := HLN.out
          unfold potN at h1 ⊢
          simp only [List.length_cons] at h1
          omega
      | false =>
        rw [htold] at hq
        have TO := Lib.hid htold
        clear htold
        have NT := Lib.hid (show Near N L s (Y ++ [(x, (u : Int))]) M (fromL (u : Int) L) (x, (u : Int)) from by rw [← HM.out]; exact NE.out.tell (arcsIn_of_ok HO.out) TO.out)
        have nx1 : tb ≠ w2.heap.size := fun e => XN.out.2.1 e.symm
        have nx2 : w2.heap.size ≠ tb := XN.out.2.1
        have lc := LC.out
        have ll := World.block_lt_of_cell? _ _ lc
        simp only at ll
        have tlo := ST2.out.lo.1
        have nl1 : tb ≠ lb := by omega
        have nl2 : lb ≠ tb := by omega
        have nl3 : lb ≠ w2.heap.size := by omega
        have nl4 : w2.heap.size ≠ lb := by omega
        have a0 : IntKind.i64.wrap (x - 0) = x := by rw [Int.sub_zero]; exact IntWalk.i64_in _ (by omega)
        have a0' : IntKind.i64.wrap x = x := IntWalk.i64_in _ (by omega)
        gi_wp2_with fail
        refine wpIn_region_held (S := fun wx => wx.cell? ⟨lb, 0, none⟩ = some (.func (.func 145) #[] #[]) ∧ wx.cell? ⟨w2.heap.size, 0, none⟩ = some (.int .i64 x) ∧ wx.cell? ⟨w2.heap.size, 1, none⟩ = some (.int .i64 (u : Int))) (by kernel_rfl) ?_ (fun hHeld => ?_)
        · (refine ⟨?_, ?_, ?_⟩ <;> (simp [go_sem, *]; done))
        refine wpAnyH_take (i := 0) (v := ?_) rfl (by kernel_rfl) (by kernel_rfl) (by kernel_rfl) (fun _ _ _ h => h) (Or.inl ⟨by kernel_rfl, ?_⟩) (by assumption) ?_
        rotate_left
        · (intro wx hSw; (try dsimp only at hSw); go_simp; try (with_reducible rfl))
        try simp only [Act.put, List.getElem_toArray, List.getElem_cons_succ, List.getElem_cons_zero, List.setIfInBounds_toArray, List.set_cons_zero, List.set_cons_succ]
        refine wpAnyH_take (i := 1) (v := ?_) rfl (by kernel_rfl) (by kernel_rfl) (by kernel_rfl) (fun _ _ _ h => h) (Or.inl ⟨by kernel_rfl, ?_⟩) (by assumption) ?_
        rotate_left
        · (intro wx hSw; (try dsimp only at hSw); go_simp; try (with_reducible rfl))
        try simp only [Act.put, List.getElem_toArray, List.getElem_cons_succ, List.getElem_cons_zero, List.setIfInBounds_toArray, List.set_cons_zero, List.set_cons_succ]
        refine wpAnyH_take (i := 2) (v := ?_) rfl (by kernel_rfl) (by kernel_rfl) (by kernel_rfl) (fun _ _ _ h => h) (Or.inl ⟨by kernel_rfl, ?_⟩) (by assumption) ?_
        rotate_left
        · (intro wx hSw; (try dsimp only at hSw); go_simp; try (with_reducible rfl))
        try simp only [Act.put, List.getElem_toArray, List.getElem_cons_succ, List.getElem_cons_zero, List.setIfInBounds_toArray, List.set_cons_zero, List.set_cons_succ]
        refine wpAnyH_take (i := 3) (v := ?_) rfl (by kernel_rfl) (by kernel_rfl) (by kernel_rfl) (fun _ _ _ h => h) (Or.inl ⟨by kernel_rfl, ?_⟩) (by assumption) ?_
        rotate_left
        · (intro wx hSw; (try dsimp only at hSw); go_simp; try (with_reducible rfl))
        try simp only [Act.put, List.getElem_toArray, List.getElem_cons_succ, List.getElem_cons_zero, List.setIfInBounds_toArray, List.set_cons_zero, List.set_cons_succ]
        refine wpAnyH_take (i := 4) (v := ?_) rfl (by kernel_rfl) (by kernel_rfl) (by kernel_rfl) (fun _ _ _ h => h) (Or.inl ⟨by kernel_rfl, ?_⟩) (by assumption) ?_
        rotate_left
        · (intro wx hSw; (try dsimp only at hSw); go_simp; try (with_reducible rfl))
        try simp only [Act.put, List.getElem_toArray, List.getElem_cons_succ, List.getElem_cons_zero, List.setIfInBounds_toArray, List.set_cons_zero, List.set_cons_succ]
        refine wpAnyH_ready (rs := [5]) (by kernel_rfl) (by simp) ?_
        refine AllReadyH.cons rfl (fun K hK => ?_) AllReadyH.nil
        go_simp
        (go_at_call 145; refine (left0_any _ _).mono ?_; rintro e w_ ⟨rfl, rfl⟩)
        try (go_wp2_with fail)
        refine hK.out _ _ ?_ (fun hHeld => ?_)
        · (refine ⟨?_, ?_, ?_⟩ <;> (simp [go_sem, *]; done))
        clear hK K
        try simp only [Act.put, List.getElem_toArray, List.getElem_cons_succ, List.getElem_cons_zero, List.setIfInBounds_toArray, List.set_cons_zero, List.set_cons_succ]
        refine wpAnyH_take (i := 6) (v := ?_) rfl (by kernel_rfl) (by kernel_rfl) (by kernel_rfl) (fun _ _ _ h => h) (Or.inl ⟨by kernel_rfl, ?_⟩) (by assumption) ?_
        rotate_left
        · (intro wx hSw; (try dsimp only at hSw); go_simp; try (with_reducible rfl))
        try simp only [Act.put, List.getElem_toArray, List.getElem_cons_succ, List.getElem_cons_zero, List.setIfInBounds_toArray, List.set_cons_zero, List.set_cons_succ]
        refine wpAnyH_take (i := 7) (v := ?_) rfl (by kernel_rfl) (by kernel_rfl) (by kernel_rfl) (fun _ _ _ h => h) (Or.inl ⟨by kernel_rfl, ?_⟩) (by assumption) ?_
        rotate_left
        · (intro wx hSw; (try dsimp only at hSw); go_simp; try (with_reducible rfl))
        try simp only [Act.put, List.getElem_toArray, List.getElem_cons_succ, List.getElem_cons_zero, List.setIfInBounds_toArray, List.set_cons_zero, List.set_cons_succ]
        refine wpAnyH_ready (rs := [8]) (by kernel_rfl) (by simp) ?_
        refine AllReadyH.cons rfl (fun K hK => ?_) AllReadyH.nil
        go_simp
        refine hK.out _ _ ?_ (fun hHeld => ?_)
        · (refine ⟨?_, ?_, ?_⟩ <;> (simp [go_sem, *]; done))
        clear hK K
        try simp only [Act.put, List.getElem_toArray, List.getElem_cons_succ, List.getElem_cons_zero, List.setIfInBounds_toArray, List.set_cons_zero, List.set_cons_succ]
        refine wpAnyH_done (by kernel_rfl) ?_ _
        refine NoOut.normal ?_
        clear hHeld
        obtain ⟨W3, hW3⟩ : ∃ W3, W3 = ((w2.setCell ⟨tb, u, none⟩ (.bool true)).alloc (.cells #[.int .i64 x, .int .i64 (u : Int)] 82)).drew := ⟨_, rfl⟩
        have st3 : NSt W K0 tb hb (Y ++ [(x, (u : Int))]) M K g c' W3 := by
          have h1 := (ST2P.out.tell (k := x) hu).bl ((Bl.alloc_ (Bl.refl (w2.setCell ⟨tb, u, none⟩ (.bool true))) (.cells #[.int .i64 x, .int .i64 (u : Int)] 82)).drew_)
          rw [hW3]; exact h1
        have hx3 : J Y K W3 := by
          rw [hW3]
          exact HJ.out _ _ _ _ (HJ.out _ _ _ _ JP.out (ST2P.out.other (Turn.set (p := ⟨tb, u, none⟩) (Turn.refl (fun i => i = tb) w2) (.inl rfl) (.bool true)) (fun i hi => .inl hi))) (Turn.of_bl ((Bl.alloc_ (Bl.refl (w2.setCell ⟨tb, u, none⟩ (.bool true))) (.cells #[.int .i64 x, .int .i64 (u : Int)] 82)).drew_))
        have s3 : W3.heap.size = w2.heap.size + 1 := by rw [hW3]; simp
        have x30 : W3.cell? ⟨w2.heap.size, 0, none⟩ = some (.int .i64 x) := by rw [hW3]; simp [go_sem]
        have x31 : W3.cell? ⟨w2.heap.size, 1, none⟩ = some (.int .i64 (u : Int)) := by rw [hW3]; simp [go_sem]
        rw [← hW3]
        have hnext : NextNear N L s Y (x, (u : Int)) := by
          obtain ⟨Z, hZ⟩ := NT.out.complete (arcsIn_of_ok HO.out) _ _ _ _ _ rfl
          exact ⟨Z, by simpa using hZ⟩
        obtain ⟨fn, tmps, assign, body, hy, hR⟩ := HY.out Y (x, (u : Int)) K _ hx3 hnext
        dsimp only [encI] at hy
        have ST3 := Lib.hid st3
        have SZ3 := Lib.hid s3
        have X30 := Lib.hid x30
        have X31 := Lib.hid x31
        clear st3 hx3 hnext s3 hW3 lc nl1 nl2 nl3 nl4 nx1 nx2 a0 hq hqf
        gi_wp2
        refine ⟨by first | rfl | (intro h; simp [Fence.wide] at h), hR.mono ?_⟩
        rintro e W4 ⟨K', hs4, (⟨rfl, hj4⟩ | ⟨rfl, hj4⟩)⟩
        · have in4 := HI.out.turn (ST3.out.round hs4).step.1 (fun i hi => HK.out i hi)
          have ST4 := Lib.hid (ST3.out.round hs4)
          have hx4 : W4.cell? ⟨w2.heap.size, 0, none⟩ = some (.int .i64 x) ∧ W4.cell? ⟨w2.heap.size, 1, none⟩ = some (.int .i64 (u : Int)) := by
            have hl : w2.heap.size < W3.heap.size := by rw [SZ3.out]; omega
            exact ⟨(hs4.1.cells hl XN.out.1.1 0).1.trans X30.out, (hs4.1.cells hl XN.out.1.1 1).1.trans X31.out⟩
          have XB := Lib.hid (show w2.heap.size < W4.heap.size ∧ w2.heap.size ≠ tb ∧ w2.heap.size ≠ hb ∧ w2.heap.size ≠ g ∧ ¬ K' w2.heap.size from by
            have h1 := hs4.1.size
            rw [SZ3.out] at h1
            exact ⟨by omega, XN.out.2.1, XN.out.2.2.1, XN.out.2.2.2.1, hs4.out (by rw [SZ3.out]; omega) XN.out.1.1⟩)
          have J4 := Lib.hid hj4
          have KL := Lib.hid (HLT.out _ _ _ hj4)
          obtain ⟨xc0, xc1⟩ := hx4
          obtain ⟨gl, g0, g1, g2, harcs⟩ := in4
          have G2 := Lib.hid harcs
          have hsb4 := World.block_lt_of_cell? _ _ g0
          have hgb4 := World.block_lt_of_cell? _ _ g1
          have hxl := XB.out.1
          simp only at hsb4 hgb4
          clear hs4 hj4 harcs hR hy htl2 ST2 ST2P JP ST3 XN SZ3 X30 X31 JH3 J2 ST LC ll gl
          generalize w2.heap.size = xb at *
          gi_wp2_with fail
          refine ⟨trivial, rfl, CallsIn.mono (callsIn_wide.2 (arcsFrom_any N u A n c L HN.out _ (by have := HN.out; omega) hc (sorted_of_ok HO.out) (fun a ha => (arcsIn_of_ok HO.out a ha).2.2.1) (by omega) (by omega) G2.out)) ?_⟩
          rintro e W5 ⟨A', c5, rfl, hc5, hA5, hblk, hb5⟩
          have A5 := Lib.hid hA5
          have ST5 := Lib.hid (ST4.out.bl hb5)
          have BLK := Lib.hid hblk
          have J5 := Lib.hid (HJ.out _ _ _ _ J4.out (Turn.of_bl hb5))
          obtain ⟨hc5a, hc5b⟩ := bcell hb5
          have hx5 : W5.cell? ⟨xb, 0, none⟩ = some (.int .i64 x) ∧ W5.cell? ⟨xb, 1, none⟩ = some (.int .i64 (u : Int)) := ⟨(hc5a _ _ hxl).trans xc0, (hc5a _ _ hxl).trans xc1⟩
          have hs5 := hb5.size
          have XB5 := Lib.hid (show xb < W5.heap.size ∧ xb ≠ tb ∧ xb ≠ hb ∧ xb ≠ g ∧ ¬ K' xb from ⟨by omega, XB.out.2⟩)
          have X5 := Lib.hid hx5
          have C5 := Lib.hid hc5
          clear hA5 hblk hb5 hc5a hc5b hx5 g0 g1 g2 xc0 xc1 ST4 J4 XB G2 hc5
          gi_wp2_with fail
          generalize hRR : fromL (u : Int) L = R at *
          have hRs := NT.out.small
          have hR150 : R.length ≤ 151 := by omega
          have HRR := Lib.hid hRR
          clear hRR hRs
          gi_loopw [51] (fun i wr => ∃ (j : Nat) (H : List It) (g' c' : Nat), j ≤ R.length ∧ i = .int .i64 j ∧ H.length = t.length + j ∧ Near N L s (Y ++ [(x, (u : Int))]) H (R.drop j) (x, (u : Int)) ∧ NSt W K0 tb hb (Y ++ [(x, (u : Int))]) H K' g' c' wr ∧ J (Y ++ [(x, (u : Int))]) K' wr ∧
            (wr.cell? ⟨xb, 0, none⟩ = some (.int .i64 x) ∧ wr.cell? ⟨xb, 1, none⟩ = some (.int .i64 (u : Int))) ∧ (xb < wr.heap.size ∧ xb ≠ tb ∧ xb ≠ hb ∧ xb ≠ g' ∧ ¬ K' xb)) (fun i _ => R.length - (intOf i).toNat)
          case atStart => exact ⟨0, M, g, c', Nat.zero_le _, rfl, by rw [HLN.out]; omega, NT.out, ST5.out, J5.out, X5.out, XB5.out⟩
          case round =>
            obtain ⟨j, H, g', d', hj, rfl, hHl, hnear, hst, hjj, ⟨x0, x1⟩, hxb⟩ := hrel
            have NE2 := Lib.hid hnear
            have HHL := Lib.hid hHl
            have hsm := hnear.small
            have S6 := Lib.hid hst
            have JJ := Lib.hid hjj
            have XB6 := Lib.hid hxb
            have hxl6 := hxb.1
            have hHm : H.length + 1 ≤ 1048576 := by omega
            clear hnear hHl hst hjj hxb X5 XB5 J5
            by_cases hlt : j < R.length
            · have hcut := List.drop_eq_getElem_cons hlt
              have NE3 := Lib.hid (show Near N L s (Y ++ [(x, (u : Int))]) H (R[j] :: R.drop (j + 1)) (x, (u : Int)) from by rw [← hcut]; exact NE2.out)
              obtain ⟨haL, -⟩ := NE3.out.rest R[j] List.mem_cons_self
              obtain ⟨-, -, a2, a3, a4, a5⟩ := arcsIn_of_ok HO.out R[j] haL
              obtain ⟨g5, o5, rfl, hg5, hcells⟩ := A5.out (by omega)
              obtain ⟨p1, p2, p3⟩ := hcells j hlt
              have hA5b : blockOf A = some g5 := BLK.out.symm
              have hgW : g5 < W.heap.size := by
                obtain ⟨g1, o1, e1, hg1, -⟩ := HI.out.arcs (List.length_pos_of_mem haL)
                rw [e1] at hA5b
                have : g1 = g5 := by simpa [blockOf] using hA5b
                omega
              have hnk : ¬ K0 g5 := fun h => HK.out g5 h (.inr (.inr (.inr ⟨List.length_pos_of_mem haL, hA5b⟩)))
              have same : ∀ o, wr.cell? ⟨g5, o, none⟩ = W5.cell? ⟨g5, o, none⟩ := fun o => (S6.out.step.1.cells hgW hnk o).1.trans (ST5.out.step.1.cells hgW hnk o).1.symm
              rw [← same] at p1 p2 p3
              have hgl : g5 < wr.heap.size := Nat.lt_of_lt_of_le hgW S6.out.step.1.size
              clear hcut hcells hA5b hgW hnk same haL
              generalize hy1 : R[j].1 = y1 at p1
              generalize hy2 : R[j].2.1 = y2 at p2 a2 a3
              generalize hy3 : R[j].2.2 = y3 at p3 a4 a5
              have HY2 := Lib.hid hy2
              have HY3 := Lib.hid hy3
              clear hy1 hy2 hy3
              have lcr := (HI.out.turn S6.out.step.1 (fun i hi => HK.out i hi)).left
              have llr := World.block_lt_of_cell? _ _ lcr
              simp only at llr
              have hlo := S6.out.lo
              have hbr := S6.out.box.lt
              have hgr := S6.out.row.cells.2.1
              have nl1 : lb ≠ hb := by omega
              have nl2 : lb ≠ g' := by omega
              have nx1 : xb ≠ hb := XB6.out.2.2.1
              have nx2 : xb ≠ g' := XB6.out.2.2.2.1
              have a0 : IntKind.i64.wrap (x + y3) = x + y3 := IntWalk.i64_in _ (by omega)
              have a00 : IntKind.i64.wrap (x + y3 + 0) = x + y3 := by rw [Int.add_zero]; exact a0
              have KEEP := Lib.hid (show ∀ w6, Turn (fun k => k = hb ∨ some k = (Value.slice (some ⟨g', 0, none⟩) H.length d').ownBlock) ((wr.alloc (.cells #[.int .i64 y1, .int .i64 y2, .int .i64 y3] 87)).drew) w6 →
                  w6.cell? ⟨lb, 0, none⟩ = some (.func (.func 145) #[] #[]) ∧ w6.cell? ⟨xb, 0, none⟩ = some (.int .i64 x) ∧ w6.cell? ⟨wr.heap.size, 1, none⟩ = some (.int .i64 y2) ∧ w6.cell? ⟨wr.heap.size, 2, none⟩ = some (.int .i64 y3) from fun w6 h => by
                have hn : ∀ i, i ≠ hb → i ≠ g' → ¬ (i = hb ∨ some i = (Value.slice (some ⟨g', 0, none⟩) H.length d').ownBlock) := by
                  rintro i h1 h2 (h' | h')
                  · exact h1 h'
                  · injection h' with h'; exact h2 h'
                refine ⟨(h.cells (g := lb) (by simp; omega) (hn _ nl1 nl2) 0).1.trans (by simp [go_sem, *]), (h.cells (g := xb) (by simp; omega) (hn _ nx1 nx2) 0).1.trans (by simp [go_sem, *]),
                  (h.cells (g := wr.heap.size) (by simp) (hn _ (by omega) (by omega)) 1).1.trans (by simp [go_sem]), (h.cells (g := wr.heap.size) (by simp) (hn _ (by omega) (by omega)) 2).1.trans (by simp [go_sem])⟩)
              gi_wp2_with fail
              refine wpIn_region_held (S := fun wx => wx.cell? ⟨lb, 0, none⟩ = some (.func (.func 145) #[] #[]) ∧ wx.cell? ⟨xb, 0, none⟩ = some (.int .i64 x) ∧ wx.cell? ⟨wr.heap.size, 1, none⟩ = some (.int .i64 y2) ∧ wx.cell? ⟨wr.heap.size, 2, none⟩ = some (.int .i64 y3)) (by kernel_rfl) ?_ (fun hHeld => ?_)
              · (first | (refine ⟨?_, ?_, ?_, ?_⟩ <;> (simp [go_sem, *]; done)) | exact KEEP.out _ hT6)
              refine wpAnyH_take (i := 0) (v := ?_) rfl (by kernel_rfl) (by kernel_rfl) (by kernel_rfl) (fun _ _ _ h => h) (Or.inl ⟨by kernel_rfl, ?_⟩) (by assumption) ?_
              rotate_left
              · (intro wx hSw; (try dsimp only at hSw); go_simp; try (with_reducible rfl))
              try simp only [Act.put, List.getElem_toArray, List.getElem_cons_succ, List.getElem_cons_zero, List.setIfInBounds_toArray, List.set_cons_zero, List.set_cons_succ]
              refine wpAnyH_take (i := 1) (v := ?_) rfl (by kernel_rfl) (by kernel_rfl) (by kernel_rfl) (fun _ _ _ h => h) (Or.inl ⟨by kernel_rfl, ?_⟩) (by assumption) ?_
              rotate_left
              · (intro wx hSw; (try dsimp only at hSw); go_simp; try (with_reducible rfl))
              try simp only [Act.put, List.getElem_toArray, List.getElem_cons_succ, List.getElem_cons_zero, List.setIfInBounds_toArray, List.set_cons_zero, List.set_cons_succ]
              refine wpAnyH_take (i := 2) (v := ?_) rfl (by kernel_rfl) (by kernel_rfl) (by kernel_rfl) (fun _ _ _ h => h) (Or.inl ⟨by kernel_rfl, ?_⟩) (by assumption) ?_
              rotate_left
              · (intro wx hSw; (try dsimp only at hSw); go_simp; try (with_reducible rfl))
              try simp only [Act.put, List.getElem_toArray, List.getElem_cons_succ, List.getElem_cons_zero, List.setIfInBounds_toArray, List.set_cons_zero, List.set_cons_succ]
              refine wpAnyH_take (i := 3) (v := ?_) rfl (by kernel_rfl) (by kernel_rfl) (by kernel_rfl) (fun _ _ _ h => h) (Or.inl ⟨by kernel_rfl, ?_⟩) (by assumption) ?_
              rotate_left
              · (intro wx hSw; (try dsimp only at hSw); go_simp; try (with_reducible rfl))
              try simp only [Act.put, List.getElem_toArray, List.getElem_cons_succ, List.getElem_cons_zero, List.setIfInBounds_toArray, List.set_cons_zero, List.set_cons_succ]
              refine wpAnyH_take (i := 4) (v := ?_) rfl (by kernel_rfl) (by kernel_rfl) (by kernel_rfl) (fun _ _ _ h => h) (Or.inl ⟨by kernel_rfl, ?_⟩) (by assumption) ?_
              rotate_left
              · (intro wx hSw; (try dsimp only at hSw); go_simp; try (with_reducible rfl))
              try simp only [Act.put, List.getElem_toArray, List.getElem_cons_succ, List.getElem_cons_zero, List.setIfInBounds_toArray, List.set_cons_zero, List.set_cons_succ]
              refine wpAnyH_take (i := 5) (v := ?_) rfl (by kernel_rfl) (by kernel_rfl) (by kernel_rfl) (fun _ _ _ h => h) (Or.inl ⟨by kernel_rfl, ?_⟩) (by assumption) ?_
              rotate_left
              · (intro wx hSw; (try dsimp only at hSw); go_simp; try (with_reducible rfl))
              try simp only [Act.put, List.getElem_toArray, List.getElem_cons_succ, List.getElem_cons_zero, List.setIfInBounds_toArray, List.set_cons_zero, List.set_cons_succ]
              refine wpAnyH_take (i := 6) (v := ?_) rfl (by kernel_rfl) (by kernel_rfl) (by kernel_rfl) (fun _ _ _ h => h) (Or.inl ⟨by kernel_rfl, ?_⟩) (by assumption) ?_
              rotate_left
              · (intro wx hSw; (try dsimp only at hSw); go_simp; try (with_reducible rfl))
              try simp only [Act.put, List.getElem_toArray, List.getElem_cons_succ, List.getElem_cons_zero, List.setIfInBounds_toArray, List.set_cons_zero, List.set_cons_succ]
              refine wpAnyH_take (i := 7) (v := ?_) rfl (by kernel_rfl) (by kernel_rfl) (by kernel_rfl) (fun _ _ _ h => h) (Or.inl ⟨by kernel_rfl, ?_⟩) (by assumption) ?_
              rotate_left
              · (intro wx hSw; (try dsimp only at hSw); go_simp; try (with_reducible rfl))
              try simp only [Act.put, List.getElem_toArray, List.getElem_cons_succ, List.getElem_cons_zero, List.setIfInBounds_toArray, List.set_cons_zero, List.set_cons_succ]
              refine wpAnyH_take (i := 8) (v := ?_) rfl (by kernel_rfl) (by kernel_rfl) (by kernel_rfl) (fun _ _ _ h => h) (Or.inl ⟨by kernel_rfl, ?_⟩) (by assumption) ?_
              rotate_left
              · (intro wx hSw; (try dsimp only at hSw); go_simp; try (with_reducible rfl))
              try simp only [Act.put, List.getElem_toArray, List.getElem_cons_succ, List.getElem_cons_zero, List.setIfInBounds_toArray, List.set_cons_zero, List.set_cons_succ]
              refine wpAnyH_take (i := 11) (v := ?_) rfl (by kernel_rfl) (by kernel_rfl) (by kernel_rfl) (fun _ _ _ h => h) (Or.inl ⟨by kernel_rfl, ?_⟩) (by assumption) ?_
              rotate_left
              · (intro wx hSw; (try dsimp only at hSw); go_simp; try (with_reducible rfl))
              try simp only [Act.put, List.getElem_toArray, List.getElem_cons_succ, List.getElem_cons_zero, List.setIfInBounds_toArray, List.set_cons_zero, List.set_cons_succ]
              refine wpAnyH_take (i := 12) (v := ?_) rfl (by kernel_rfl) (by kernel_rfl) (by kernel_rfl) (fun _ _ _ h => h) (Or.inl ⟨by kernel_rfl, ?_⟩) (by assumption) ?_
              rotate_left
              · (intro wx hSw; (try dsimp only at hSw); go_simp; try (with_reducible rfl))
              try simp only [Act.put, List.getElem_toArray, List.getElem_cons_succ, List.getElem_cons_zero, List.setIfInBounds_toArray, List.set_cons_zero, List.set_cons_succ]
              refine wpAnyH_ready (rs := [9]) (by kernel_rfl) (by simp) ?_
              refine AllReadyH.cons rfl (fun K hK => ?_) AllReadyH.nil
              go_simp
              (go_at_call 145; refine (left0_any _ _).mono ?_; rintro e w_ ⟨rfl, rfl⟩)
              try (go_wp2_with fail)
              refine hK.out _ _ ?_ (fun hHeld => ?_)
              · (first | (refine ⟨?_, ?_, ?_, ?_⟩ <;> (simp [go_sem, *]; done)) | exact KEEP.out _ hT6)
              clear hK K
              try simp only [Act.put, List.getElem_toArray, List.getElem_cons_succ, List.getElem_cons_zero, List.setIfInBounds_toArray, List.set_cons_zero, List.set_cons_succ]
              refine wpAnyH_take (i := 10) (v := ?_) rfl (by kernel_rfl) (by kernel_rfl) (by kernel_rfl) (fun _ _ _ h => h) (Or.inl ⟨by kernel_rfl, ?_⟩) (by assumption) ?_
              rotate_left
              · (intro wx hSw; (try dsimp only at hSw); go_simp; try (with_reducible rfl))
              try simp only [Act.put, List.getElem_toArray, List.getElem_cons_succ, List.getElem_cons_zero, List.setIfInBounds_toArray, List.set_cons_zero, List.set_cons_succ]
              refine wpAnyH_take (i := 13) (v := ?_) rfl (by kernel_rfl) (by kernel_rfl) (by kernel_rfl) (fun _ _ _ h => h) (Or.inl ⟨by kernel_rfl, ?_⟩) (by assumption) ?_
              rotate_left
              · (intro wx hSw; (try dsimp only at hSw); go_simp; try (with_reducible rfl))
              try simp only [Act.put, List.getElem_toArray, List.getElem_cons_succ, List.getElem_cons_zero, List.setIfInBounds_toArray, List.set_cons_zero, List.set_cons_succ]
              refine wpAnyH_ready (rs := [14]) (by kernel_rfl) (by simp) ?_
              refine AllReadyH.cons rfl (fun K hK => ?_) AllReadyH.nil
              go_simp
              (go_at_call 110; refine (push_any W.heap.size hb (.slice (some ⟨g', 0, none⟩) H.length d') H (x + y3) y2 _ hHm (S6.out.bl (by repeat' (first | exact Bl.refl _ | with_reducible assumption | with_reducible refine Bl.drew_ ?_ | with_reducible refine Bl.drewN_ ?_ _ | with_reducible refine Bl.alloc_ ?_ _ | with_reducible refine Bl.trans_ ?_ (by assumption) | with_reducible refine Bl.trans_ ?_ (And.left (by assumption))))).heapIn (by simp; omega)).mono ?_; rintro e w6 ⟨rfl, g6, c6, hH6, hT6, hg6⟩)
              try (go_wp2_with fail)
              refine hK.out _ _ ?_ (fun hHeld => ?_)
              · (first | (refine ⟨?_, ?_, ?_, ?_⟩ <;> (simp [go_sem, *]; done)) | exact KEEP.out _ hT6)
              clear hK K
              try simp only [Act.put, List.getElem_toArray, List.getElem_cons_succ, List.getElem_cons_zero, List.setIfInBounds_toArray, List.set_cons_zero, List.set_cons_succ]
              refine wpAnyH_done (by kernel_rfl) ?_ _
              refine NoOut.normal ?_
              clear hHeld
              have hB6 : Bl wr ((wr.alloc (.cells #[.int .i64 y1, .int .i64 y2, .int .i64 y3] 87)).drew) := (by repeat' (first | exact Bl.refl _ | with_reducible assumption | with_reducible refine Bl.drew_ ?_ | with_reducible refine Bl.drewN_ ?_ _ | with_reducible refine Bl.alloc_ ?_ _ | with_reducible refine Bl.trans_ ?_ (by assumption) | with_reducible refine Bl.trans_ ?_ (And.left (by assumption))))
              have JA := HJ.out _ _ _ _ JJ.out (Turn.of_bl hB6)
              have st6 := (S6.out.bl hB6).push (HLT.out _ _ _ JA) (by rw [upI_len]; simp) hH6 hT6 hg6
              have j6 := HJ.out _ _ _ _ JA ((S6.out.bl hB6).other hT6 (fun i hi => by
                rcases hi with h | h
                · exact .inr (.inl h)
                · injection h with h; exact .inr (.inr h)))
              have hxn : ¬ (xb = hb ∨ some xb = (Value.slice (some ⟨g', 0, none⟩) H.length d').ownBlock) := by
                rintro (h | h)
                · exact XB6.out.2.2.1 h
                · injection h with h; exact XB6.out.2.2.2.1 h
              have hxl7 : xb < ((wr.alloc (.cells #[.int .i64 y1, .int .i64 y2, .int .i64 y3] 87)).drew).heap.size := by simp; omega
              have hx6 : w6.cell? ⟨xb, 0, none⟩ = some (.int .i64 x) ∧ w6.cell? ⟨xb, 1, none⟩ = some (.int .i64 (u : Int)) :=
                ⟨(hT6.cells hxl7 hxn 0).1.trans (((bcell hB6).1 _ _ hxl6).trans x0), (hT6.cells hxl7 hxn 1).1.trans (((bcell hB6).1 _ _ hxl6).trans x1)⟩
              have hxb6 : xb < w6.heap.size ∧ xb ≠ tb ∧ xb ≠ hb ∧ xb ≠ g6 ∧ ¬ K' xb := by
                refine ⟨Nat.lt_of_lt_of_le hxl7 hT6.size, XB6.out.2.1, XB6.out.2.2.1, ?_, XB6.out.2.2.2.2⟩
                rcases hg6 with h | h
                · have h' : g' = g6 := by simpa [Value.ownBlock] using h
                  rw [← h']; exact XB6.out.2.2.2.1
                · omega
              have ST6 := Lib.hid st6
              have J6 := Lib.hid j6
              have X6 := Lib.hid hx6
              have XB7 := Lib.hid hxb6
              have hpu := NE3.out.push (arcsIn_of_ok HO.out)
              rw [HY2.out, HY3.out] at hpu
              have NE4 := Lib.hid hpu
              clear hH6 hT6 hg6 hB6 JA st6 j6 hxn hxl7 hx6 hxb6 hpu KEEP lcr llr nl1 nl2 nx1 nx2 a0 a00 hlo hbr hgr
              gi_wp2_with fail
              go_roundw
              case rel => exact ⟨j + 1, _, g6, c6, by omega, by go_num, by rw [upI_len]; simp; have := HHL.out; omega, NE4.out, ST6.out, J6.out, X6.out, XB7.out⟩
              case measure => simp [intOf]; omega
            · have hjR : R.drop j = [] := List.drop_eq_nil_of_le (by omega)
              have NE3 := Lib.hid (show Near N L s (Y ++ [(x, (u : Int))]) H [] (x, (u : Int)) from by rw [← hjR]; exact NE2.out)
              clear hjR
              gi_wp2_with fail
              gi_roundg (potN L (Y ++ [(x, (u : Int))]) H)
              case rel => exact ⟨_, H, K', g', d', NE3.out.any _, Nat.le_refl _, S6.out, JJ.out⟩
              case measure =>
                have h1 := POT.out
                have h2 := HHL.out
                have h3 := potN_tell L Y ((x, (u : Int)) :: t) H (x, (u : Int)) TO.out R.length (by rw [← HRR.out]; rfl)
                simp only [List.length_cons] at h3
                omega
        · gi_wp2
          refine bodyPost_ret (results_none rfl _ _ _) rfl ?_
          obtain ⟨Z, hZ⟩ := NT.out.complete (arcsIn_of_ok HO.out) _ _ _ _ _ rfl
          exact ⟨⟨_, rfl⟩, K', (ST3.out.round hs4).step, .inr ⟨_, ⟨Z, hZ⟩, hj4⟩⟩

/-- The function that nearestFrom hands back keeps the contract of an iterator. -/
theorem near_stops (N s : Int) (A : Option Addr) (n c lb sb gb : Nat) (L : List Arc3) (hn : n = L.length) (hc : n ≤ c) (ho : okB N L = true) (h0 : 0 ≤ s) (h1 : s < N) (w : World) (hI : NIn w lb sb gb N s A n c L) :
    SeqT Try.prog 157 #[.pointer (some ⟨lb, 0, none⟩), .pointer (some ⟨sb, 0, none⟩), .pointer (some ⟨gb, 0, none⟩)] encI (NextNear N L s) (AllNear N L s) (PartNear N L s) (inBlocks lb sb gb A L) w :=
  fun l J Jx K W hb hK hJ hJx hlt hY hJ0 => nearest_walk N s A n c lb sb gb L hn hc ho h0 h1 l J Jx K W (hI.turn (Turn.of_bl (S := fun _ => False) hb) (fun _ h => h.elim)) hJ hJx hlt hK hY hJ0

end Go.Proofs.Ytffjpfanmnkmgaa

set_option linter.unusedSimpArgs false
set_option linter.unusedVariables false
namespace Go.Proofs.Ytffjpfanmnkmgaa
open Go.RowKit Go.Shelf
attribute [local go_sem] Oper.semAt_some

set_option maxHeartbeats 400000 in
theorem guidedFrom_any (N s : Int) (A : Option Addr) (n c : Nat) (f : Value) (w : World) (hf : f = .func (.func 145) #[] #[]) :
    Calls Try.prog 144 #[.agg #[.int .i64 N, .slice A n c], .int .i64 s, f] w fun e w' =>
      e = .returned (.func (.func 157) #[] #[.pointer (some ⟨w.heap.size + 2, 0, none⟩), .pointer (some ⟨w.heap.size + 1, 0, none⟩), .pointer (some ⟨w.heap.size, 0, none⟩)]) ∧
      w' = ((w.alloc (.cells #[.int .i64 N, .slice A n c] 38)).alloc (.cells #[.int .i64 s] 2)).alloc (.cells #[.func (.func 145) #[] #[]] 180) := by
  subst hf
  go_enter Try.func144, Try.ntmps144
  go_wp2
  go_ret
  exact ⟨rfl, rfl⟩
set_option maxHeartbeats 400000 in
theorem nearestFrom_any (N s : Int) (A : Option Addr) (n c : Nat) (w : World) :
    Calls Try.prog 117 #[.agg #[.int .i64 N, .slice A n c], .int .i64 s] w fun e w' =>
      e = .returned (.func (.func 157) #[] #[.pointer (some ⟨w.heap.size + 3, 0, none⟩), .pointer (some ⟨w.heap.size + 2, 0, none⟩), .pointer (some ⟨w.heap.size + 1, 0, none⟩)]) ∧
      w' = (((w.alloc (.cells #[.int .i64 N, .slice A n c] 38)).alloc (.cells #[.int .i64 N, .slice A n c] 38)).alloc (.cells #[.int .i64 s] 2)).alloc (.cells #[.func (.func 145) #[] #[]] 180) := by
  go_enter Try.func117, Try.ntmps117
  go_wp2_with fail
  refine (guidedFrom_any N s A n c _ _ rfl).mono ?_
  rintro e w1 ⟨rfl, rfl⟩
  go_wp2
  go_ret
  exact ⟨by simp, rfl⟩

set_option maxRecDepth 100000 in
set_option maxHeartbeats 4000000 in
theorem distances_any (N s : Int) (A : Option Addr) (n c : Nat) (L : List Arc3) (hn : n = L.length) (hc : n ≤ c) (ho : okB N L = true) (h0 : 0 ≤ s) (h1 : s < N) (w : World) (H1 : ArcsAt w w.heap.size A L) :
    Calls Try.prog 73 #[.agg #[.int .i64 N, .slice A n c], .int .i64 s] w fun e w' => ∃ E : List Int, e = .returned (.agg (E.map (Value.int .i64)).toArray) ∧ E.length = 24 ∧ E.take N.toNat = distL N L s ∧ Bl w w' := by
  have K1 := Lib.hid H1
  have HN := Lib.hid hn
  have HO := Lib.hid ho
  clear H1 hn ho
  refine (callsIn_wide (n := 0)).1 ?_
  refine callsIn_of_wp_marks Try.func73 rfl trivial ?_ rfl
  simp only [Try.ntmps73, List.size_toArray, List.length_cons, List.length_nil, Nat.reduceAdd, Nat.reduceSub, Array.replicate_succ, Array.replicate_zero, List.push_toArray, List.append_toArray, List.nil_append, List.cons_append]
  gi_wp2_with fail
  have hN24 := (okB_elim HO.out).2.1
  gi_loopw [8] (fun i wr => ∃ j : Nat, j ≤ 24 ∧ i = .int .i64 j ∧ Bl ((w.alloc (.cells #[.int .i64 N, .slice A n c] 38)).alloc (.cells #[.int .i64 0, .int .i64 0, .int .i64 0, .int .i64 0, .int .i64 0, .int .i64 0, .int .i64 0, .int .i64 0, .int .i64 0, .int .i64 0, .int .i64 0, .int .i64 0, .int .i64 0, .int .i64 0, .int .i64 0, .int .i64 0, .int .i64 0, .int .i64 0, .int .i64 0, .int .i64 0, .int .i64 0, .int .i64 0, .int .i64 0, .int .i64 0] 99)) wr ∧
      ∃ E, NumsAt wr (w.heap.size + 2) E ∧ ∀ i (h : i < E.length), i < j → E[i] = -1) (fun i _ => 24 - (intOf i).toNat)
  case atStart =>
    refine ⟨0, by omega, rfl, (Bl.refl _).alloc_ _, List.replicate 24 0, ⟨by simp, by simp, fun i hi => ?_, fun i hi => ?_⟩, fun i h h' => absurd h' (by omega)⟩
    · rw [List.length_replicate] at hi
      rw [List.getElem_replicate]
      match i, hi with
      | 0, _ | 1, _ | 2, _ | 3, _ | 4, _ | 5, _ | 6, _ | 7, _ | 8, _ | 9, _ | 10, _ | 11, _ | 12, _ | 13, _ | 14, _ | 15, _ | 16, _ | 17, _ | 18, _ | 19, _ | 20, _ | 21, _ | 22, _ | 23, _ => simp [go_sem]
      | (k + 24), h => exact absurd h (by omega)
    · simp [go_sem]
  case round =>
    obtain ⟨j, hj, rfl, hbl, E, hE, hneg⟩ := hrel
    have HE := Lib.hid hE
    have NG := Lib.hid hneg
    have hbs := hbl.size
    have HB := Lib.hid hbl
    simp only [World.size_alloc] at hbs
    have hdl := hE.lt
    clear hneg hbl
    by_cases hlt : j < 24
    · have q0 := hE.cell j (by rw [hE.len]; exact hlt)
      have q1 := hE.free j hlt
      generalize E[j]'(by rw [hE.len]; exact hlt) = ej at q0
      clear hE
      gi_wp2_with fail
      go_roundw
      case rel =>
        refine ⟨j + 1, by omega, by go_num, HB.out.set_ (by simp) _, E.set j (-1), HE.out.set (-1), fun i h hi => ?_⟩
        rw [List.getElem_set]
        split
        · rfl
        · exact NG.out i (by simpa using h) (by omega)
      case measure => simp [intOf]; omega
    · have hE0 : E = keysL 24 [] := List.ext_getElem (by rw [hE.len, keysL_len]) fun i h1 h2 => by
        rw [NG.out i h1 (by have := hE.len; omega)]
        simp [keysL, keyOf]
      have HE0 := Lib.hid hE0
      obtain ⟨hgc0, hgc1⟩ : wr.cell? ⟨w.heap.size, 0, none⟩ = some (.int .i64 N) ∧ wr.cell? ⟨w.heap.size, 1, none⟩ = some (.slice A n c) := by
        have hx := (bcell HB.out).1
        exact ⟨(hx _ _ (by simp; omega)).trans (by simp [go_sem]), (hx _ _ (by simp; omega)).trans (by simp [go_sem])⟩
      clear hE hE0
      gi_wp2_with fail
      refine ⟨trivial, rfl, CallsIn.mono (callsIn_wide.2 (nearestFrom_any N s A n c _)) ?_⟩
      rintro e w3 ⟨rfl, hw3⟩
      have HW3 := Lib.hid hw3
      clear hw3
      gi_wp2_with fail
      have hs3 : w3.heap.size = wr.heap.size + 4 := by rw [HW3.out]; simp
      have hb3 : Bl wr w3 := by rw [HW3.out]; exact ((((Bl.refl wr).alloc_ _).alloc_ _).alloc_ _).alloc_ _
      have hbw : Bl w wr := (((Bl.refl w).alloc_ _).alloc_ _).trans_ HB.out
      have hin : NIn w3 (wr.heap.size + 3) (wr.heap.size + 2) (wr.heap.size + 1) N s A n c L := by
        refine ⟨?_, ?_, ?_, ?_, (K1.out.bl hbw).bl hb3⟩ <;> (rw [HW3.out]; simp [go_sem])
      have hn0 : NumsAt w3 (w.heap.size + 2) (keysL 24 []) := by rw [← HE0.out]; exact HE.out.bl hb3
      have HN0 := Lib.hid hn0
      clear hgc0 hgc1
      refine wpIn_range (gf := 157) (lb := #[.pointer (some ⟨wr.heap.size + 3, 0, none⟩), .pointer (some ⟨wr.heap.size + 2, 0, none⟩), .pointer (some ⟨wr.heap.size + 1, 0, none⟩)]) ?e1 ?e2
        (near_stops N s A n c (wr.heap.size + 3) (wr.heap.size + 2) (wr.heap.size + 1) L HN.out hc HO.out h0 h1 w3 hin) (Bl.refl _) (fun i hi => inBlocks_lt hin hi) ?e3
        (fun pre K W' => (∀ i, K i ↔ i = w.heap.size + 2) ∧ NumsAt W' (w.heap.size + 2) (keysL 24 pre))
        (fun _ _ _ _ => False)
        (fun pre x a K W' => ∃ xb, (∀ i, K i ↔ (i = w.heap.size + 2 ∨ i = xb)) ∧ NumsAt W' (w.heap.size + 2) (keysL 24 pre) ∧ (xb ≠ w.heap.size + 2 ∧ W'.cell? ⟨xb, 0, none⟩ = some (.int .i64 x.1) ∧ W'.cell? ⟨xb, 1, none⟩ = some (.int .i64 x.2)) ∧
          a = { tmps := #[.agg #[.int .i64 N, .slice A n c], .int .i64 s, .pointer (some ⟨w.heap.size, 0, none⟩), undef, .pointer (some ⟨w.heap.size + 1, 0, none⟩), .pointer (some ⟨w.heap.size + 1 + 1, 0, none⟩), u6, .pointer (some ⟨xb, 0, none⟩), .int .i64 j, .bool (decide ((j : Int) < 24)), u10, u11, u12, u13,
            .agg #[.int .i64 N, .slice A n c], .int .i64 s, .func (.func 157) #[] #[.pointer (some ⟨wr.heap.size + 3, 0, none⟩), .pointer (some ⟨wr.heap.size + 2, 0, none⟩), .pointer (some ⟨wr.heap.size + 1, 0, none⟩)], .agg #[.int .i64 x.1, .int .i64 x.2], undef, undef, undef, undef, undef, undef], defers := [] })
        (fun i => i = w.heap.size + 2) ?hK0 ?hI (fun _ _ _ _ _ h _ => h) ?hM ?hlt ⟨fun i => Iff.rfl, hn0⟩ ?assign ?body ?done (fun _ _ _ _ _ _ _ h _ _ _ => h.elim)
      case e1 => rfl
      case e2 => exact enters_of Try.func157 (by kernel_rfl) rfl
      case e3 => exact fun x => rfl
      case hK0 =>
        rintro i rfl hi
        have hd := HE.out.lt
        rcases hi with h | h | h | ⟨hl, h⟩
        · omega
        · omega
        · omega
        · obtain ⟨g, off, rfl, hg, -⟩ := K1.out hl
          have : g = w.heap.size + 2 := by simpa [blockOf] using h
          omega
      case hI =>
        rintro pre K X Y ⟨hk, hnum⟩ ht
        exact ⟨hk, hnum.turn ht (fun h => h ((hk _).2 rfl))⟩
      case hM =>
        rintro pre x a K X Y ⟨xb, hk, hnum, ⟨hne, hc0, hc1⟩, he⟩ ht
        have hx := World.block_lt_of_cell? _ _ hc0
        have hs := fun o => (ht.cells hx (fun h => h ((hk _).2 (.inr rfl))) o).1
        exact ⟨xb, hk, hnum.turn ht (fun h => h ((hk _).2 (.inl rfl))), ⟨hne, (hs 0).trans hc0, (hs 1).trans hc1⟩, he⟩
      case hlt =>
        rintro pre K X ⟨hk, hnum⟩ i hi
        rw [(hk i).1 hi]
        exact hnum.lt
      case assign =>
        rintro l pre ⟨x, y⟩ K W R ⟨hk, hnum⟩ hpre hR
        have HK := Lib.hid hk
        have HNM := Lib.hid hnum
        have HR := Lib.hid hR
        clear hk hnum hpre hR hs3 hb3 hbw hin hn0
        dsimp only [encI]
        gi_wp2_with fail
        have hlt := HNM.out.lt
        refine HR.out _ (fun i => i = w.heap.size + 2 ∨ i = W.heap.size) _ ⟨Turn.of_bl (by repeat' (first | exact Bl.refl _ | with_reducible assumption | with_reducible refine Bl.drew_ ?_ | with_reducible refine Bl.drewN_ ?_ _ | with_reducible refine Bl.alloc_ ?_ _ | with_reducible refine Bl.trans_ ?_ (by assumption) | with_reducible refine Bl.trans_ ?_ (And.left (by assumption)))), fun i hi => hi.imp (fun h => (HK.out i).2 h) (fun h => by rw [h]; exact Nat.le_refl _)⟩ ⟨W.heap.size, fun i => Iff.rfl, HNM.out.bl (by repeat' (first | exact Bl.refl _ | with_reducible assumption | with_reducible refine Bl.drew_ ?_ | with_reducible refine Bl.drewN_ ?_ _ | with_reducible refine Bl.alloc_ ?_ _ | with_reducible refine Bl.trans_ ?_ (by assumption) | with_reducible refine Bl.trans_ ?_ (And.left (by assumption)))), ⟨by omega, by simp [go_sem], by simp [go_sem]⟩, rfl⟩
      case body =>
        rintro l pre ⟨x, y⟩ a₁ K W ⟨xb, hk, hnum, ⟨hne, hc0, hc1⟩, rfl⟩ ⟨Z, hZ⟩
        obtain ⟨f1, f2, f3, -, -⟩ := NextFacts (arcsIn_of_ok HO.out) hN24 hZ
        simp only at f1 f2 f3
        obtain ⟨u, rfl⟩ : ∃ u : Nat, y = u := ⟨y.toNat, by omega⟩
        have hu : u < 24 := by omega
        have hu0 : (0 : Int) ≤ (u : Int) := by omega
        have hu1 : (u : Int) < 24 := by omega
        have hkl := keysL_len 24 pre
        have q0 := hnum.cell u (by rw [hkl]; exact hu)
        have q1 := hnum.free u hu
        generalize (keysL 24 pre)[u]'(by rw [hkl]; exact hu) = ej at q0
        have hdl' := hnum.lt
        have HK := Lib.hid hk
        have HNM := Lib.hid hnum
        have F3 := Lib.hid f3
        clear hk hnum f1 f2 f3 hs3 hb3 hbw hin hn0 hZ hkl
        simp only at hc0 hc1
        gi_wp2_with fail
        refine ⟨fun i => i = w.heap.size + 2, ⟨Turn.set (p := ⟨w.heap.size + 2, u, none⟩) (Turn.refl K W) (.inl ((HK.out _).2 (.inl rfl))) _, fun i hi => .inl ((HK.out i).2 (.inl hi))⟩, fun i => Iff.rfl, ?_⟩
        have e : keysL 24 (pre ++ [(x, (u : Int))]) = (keysL 24 pre).set u x := keysL_snoc (x := (x, (u : Int))) F3.out hu0
        rw [e]
        exact HNM.out.set x
      case done =>
        rintro D xs K W hD hall ⟨hk, hnum⟩ hT hKD hdef
        have HK := Lib.hid hk
        have HNM := Lib.hid hnum
        have HT := Lib.hid hT
        have HA := Lib.hid hall
        have HD := Lib.hid hdef
        clear hk hnum hT hall hdef hs3 hb3 hbw hin hn0
        have hrb : W.there (w.heap.size + 1) 0 24 := by
          have hT2 := HT.out
          refine there_of_cells fun i hi => ?_
          have hbs' := HB.out.size
          simp only [World.size_alloc] at hbs'
          have hl3 : w.heap.size + 1 < w3.heap.size := by rw [HW3.out]; simp; omega
          obtain ⟨x1, x2⟩ := HT.out.cells hl3 (fun h => by omega) i
          obtain ⟨y1, y2⟩ := bcell HB.out
          have hl0 : w.heap.size + 1 < wr.heap.size := by omega
          have z1 : w3.cell? ⟨w.heap.size + 1, i, none⟩ = wr.cell? ⟨w.heap.size + 1, i, none⟩ := by rw [HW3.out]; exact (bcell (show Bl wr _ from (by repeat' (first | exact Bl.refl _ | with_reducible assumption | with_reducible refine Bl.drew_ ?_ | with_reducible refine Bl.drewN_ ?_ _ | with_reducible refine Bl.alloc_ ?_ _ | with_reducible refine Bl.trans_ ?_ (by assumption) | with_reducible refine Bl.trans_ ?_ (And.left (by assumption)))))).1 _ _ hl0
          have z2 : w3.frozen? ⟨w.heap.size + 1, i, none⟩ = wr.frozen? ⟨w.heap.size + 1, i, none⟩ := by rw [HW3.out]; exact (bcell (show Bl wr _ from (by repeat' (first | exact Bl.refl _ | with_reducible assumption | with_reducible refine Bl.drew_ ?_ | with_reducible refine Bl.drewN_ ?_ _ | with_reducible refine Bl.alloc_ ?_ _ | with_reducible refine Bl.trans_ ?_ (by assumption) | with_reducible refine Bl.trans_ ?_ (And.left (by assumption)))))).2 _ _ hl0
          rw [x1, x2, z1, z2, y1 _ _ (by simp), y2 _ _ (by simp)]
          match i, hi with
          | 0, _ | 1, _ | 2, _ | 3, _ | 4, _ | 5, _ | 6, _ | 7, _ | 8, _ | 9, _ | 10, _ | 11, _ | 12, _ | 13, _ | 14, _ | 15, _ | 16, _ | 17, _ | 18, _ | 19, _ | 20, _ | 21, _ | 22, _ | 23, _ => simp [go_sem]
          | (k + 24), h => exact absurd h (by omega)
        have HRB := Lib.hid hrb
        have hsz : (Try.prog.info? 99).map (·.size) = some 24 := by kernel_rfl
        have HSZ := Lib.hid hsz
        clear hrb hsz
        gi_wp2_with (first | (refine wpListIn_load_mid rfl 99 (.tmp 5) rfl (w.heap.size + 2) 0 rfl (csI (keysL 24 xs)) _ HNM.out.range Try.underlying99 rfl (by rw [csI_len, keysL_len]; exact HSZ.out) ?_) | (refine wpListIn_store_mid rfl 99 (.tmp 4) (.tmp 23) rfl (w.heap.size + 1) 0 (csI (keysL 24 xs)).toArray rfl rfl ?c1 ?c2 (csI_one _) ?_))
        case c1 => simpa [csI_len, keysL_len] using HRB.out
        case c2 => simpa [csI_len, keysL_len] using HSZ.out
        have hl3 : w.heap.size + 1 < w3.heap.size := by
          have := HB.out.size
          rw [HW3.out]
          simp only [World.size_alloc] at this ⊢
          omega
        have hDl : D < W.heap.size := (Array.getElem?_eq_some_iff.1 HD.out).1
        have hts : Turn (fun i => i = w.heap.size + 1) W (W.setCells (w.heap.size + 1) 0 (csI (keysL 24 xs))) := Turn.setCells_ (S := fun i => i = w.heap.size + 1) (w.heap.size + 1) rfl _ _ _ (Turn.refl _ _)
        have hD2 := (hts.block D hDl (by omega)).trans HD.out
        have hnums := NumsAt.stored (keysL_len 24 xs) (Nat.lt_of_lt_of_le hl3 HT.out.size) HRB.out
        have hnums2 := hnums.turn (turn_put (fun i => i = D) _ (.deferred none) rfl) (show ¬ (w.heap.size + 1 = D) by omega)
        refine ⟨by simp, .inl ⟨_, _, rfl, run_takeDeferred hD2, ?_⟩⟩
        refine ⟨_, results_cell_mid rfl _ _ (w.heap.size + 1) (csI (keysL 24 xs)) _ rfl hnums2.range Try.underlying99 rfl (by rw [csI_len, keysL_len]; exact HSZ.out), ?_⟩
        refine ⟨keysL 24 xs, rfl, keysL_len _ _, ?_, ?_⟩
        · rw [keysL_take (by omega)]
          exact HA.out.keys (arcsIn_of_ok HO.out) hN24
        · have hb3 : Bl w w3 := by
            rw [HW3.out]
            exact ((((Bl.refl w).alloc_ _).alloc_ _).trans_ HB.out).trans_ (((((Bl.refl wr).alloc_ _).alloc_ _).alloc_ _).alloc_ _)
          have hbW : Bl w W := Turn.to_bl hb3 HT.out (fun i hi => by rw [hi]; omega)
          have h4 := Bl.setCells_ (w.heap.size + 1) (by omega) (csI (keysL 24 xs)) 0 W hbW
          exact Turn.to_bl h4 (turn_put (fun i => i = D) _ (.deferred none) rfl) (fun i hi => by rw [hi]; omega)

end Go.Proofs.Ytffjpfanmnkmgaa

set_option linter.unusedSimpArgs false
set_option linter.unusedVariables false
namespace Go.Proofs.Ytffjpfanmnkmgaa
open Go.RowKit

theorem infoInt : (Try.prog.info? 2).map (fun i => (i.zero, i.size, i.bytes)) = some (some (.int .i64 0), 1, 8) := by kernel_rfl

/-- The slice at A reads as the numbers V, below block B. -/
def IntsAt (w : World) (B : Nat) (A : Option Addr) (V : List Int) : Prop := CellsAt w B A (csI V)
theorem IntsAt.cell {w : World} {B : Nat} {A : Option Addr} {V : List Int} (h : IntsAt w B A V) (h0 : 0 < V.length) :
    ∃ g off, A = some ⟨g, off, none⟩ ∧ g < B ∧ ∀ k (hk : k < V.length), w.cell? ⟨g, off + k, none⟩ = some (.int .i64 V[k]) := by
  obtain ⟨g, off, e, hg, hc⟩ := h (by rw [csI_len]; omega)
  exact ⟨g, off, e, hg, fun k hk => by rw [hc k (by rw [csI_len]; exact hk), csI_at]⟩
theorem IntsAt.bl {w w' : World} {A : Option Addr} {V : List Int} (h : IntsAt w w.heap.size A V) (hb : Bl w w') : IntsAt w' w'.heap.size A V := CellsAt.bl h hb
theorem IntsAt.bl' {w w' : World} {B : Nat} {A : Option Addr} {V : List Int} (h : IntsAt w B A V) (hB : B ≤ w.heap.size) (hb : Bl w w') : IntsAt w' B A V := CellsAt.bl' h hB hb
theorem IntsAt.more {w : World} {B B' : Nat} {A : Option Addr} {V : List Int} (h : IntsAt w B A V) (hB : B ≤ B') : IntsAt w B' A V := CellsAt.more h hB
theorem IntsAt.grown_ {w w' : World} {B : Nat} {A : Option Addr} {V : List Int} {row : Option Nat} (h : IntsAt w B A V) (hB : B ≤ w.heap.size) (hg : w.grownBy w' row)
    (hne : ∀ g, blockOf A = some g → g < B → some g ≠ row) : IntsAt w' B A V := CellsAt.grown_ h hB hg hne
/-- The value v owns the numbers V, in blocks from B on. -/
def OwnN (w : World) (B : Nat) (v : Value) (V : List Int) : Prop := Owns 2 1 w B v V.length (csI V)
theorem OwnN.nil_ (w : World) (B : Nat) : OwnN w B (.slice none 0 0) [] := Owns.nil_ _ _ _ _
theorem OwnN.bl {w w' : World} {B : Nat} {v : Value} {V : List Int} (h : OwnN w B v V) (hb : Bl w w') : OwnN w' B v V := Owns.bl h hb
theorem OwnN.low {w : World} {B B' : Nat} {v : Value} {V : List Int} (h : OwnN w B' v V) (hB : B ≤ B') : OwnN w B v V := Owns.low h hB
theorem OwnN.shape {w : World} {B : Nat} {v : Value} {V : List Int} (h : OwnN w B v V) :
    ∃ A c, v = .slice A V.length c ∧ V.length ≤ c ∧ IntsAt w w.heap.size A V ∧ RowsW 2 1 w A V.length ∧ ∀ g, blockOf A = some g → B ≤ g ∧ g < w.heap.size := by
  have h' := h
  obtain ⟨A, c, rfl, hc, h1, h2, h3⟩ := Owns.shape h
  refine ⟨A, c, rfl, ?_, h1, h2, Owns.lt_ h⟩
  rcases h'.2 with ⟨e, h0⟩ | ⟨g, cap, cur, e, _, _, hnc, _⟩
  · omega
  · injection e with e1 e2 e3
    omega
/-- A new list of numbers is left. -/
def NumsMade (V : List Int) (w : World) (e : Ending) (w' : World) : Prop := ∃ v, e = .returned v ∧ OwnN w' w.heap.size v V ∧ Bl w w'

set_option maxHeartbeats 400000 in
theorem eqInt64S_yes (A1 A2 : Option Addr) (c1 c2 : Nat) (V : List Int) (n : Nat) (hn : n = V.length) (w : World) (hm : n ≤ 9223372036854775807) (H1 : IntsAt w w.heap.size A1 V) (H2 : IntsAt w w.heap.size A2 V) :
    Calls Try.prog 17 #[.slice A1 n c1, .slice A2 n c2] w fun e w' => e = .returned (.bool true) ∧ Bl w w' := by
  have K1 := Lib.hid H1
  have K2 := Lib.hid H2
  have HN := Lib.hid hn
  have hnn : ((n : Int) != (n : Int)) = false := by simp
  clear H1 H2 hn
  go_enter Try.func17, Try.ntmps17
  go_wp2
  go_loopw [5] (fun i wr => ∃ k : Nat, k ≤ n ∧ i = .int .i64 k ∧ Bl w wr) (fun i _ => n - (intOf i).toNat)
  case atStart => exact ⟨0, by omega, rfl, Bl.refl w⟩
  case round =>
    obtain ⟨k, hk, rfl, hbl⟩ := hrel
    by_cases hlt : k < n
    · have hkl : k < V.length := by have := HN.out; omega
      obtain ⟨g1, o1, rfl, hg1, hc1⟩ := K1.out.cell (by omega)
      obtain ⟨g2, o2, rfl, hg2, hc2⟩ := K2.out.cell (by omega)
      have p1 := hc1 k hkl
      have p2 := hc2 k hkl
      clear hc1 hc2
      rw [← (bcell hbl).1 _ _ hg1] at p1
      rw [← (bcell hbl).1 _ _ hg2] at p2
      generalize V[k] = x at p1 p2
      have hxx : (x != x) = false := by simp
      have i1 : (0 : Int) ≤ (k : Int) := by omega
      have i2 : (k : Int) < (n : Int) := by omega
      go_wp2
      go_quiet (fail)
      go_wp2
      go_roundw
      case rel => exact ⟨k + 1, by omega, by go_num, (by repeat' (first | exact Bl.refl _ | with_reducible assumption | with_reducible refine Bl.drew_ ?_ | with_reducible refine Bl.drewN_ ?_ _ | with_reducible refine Bl.alloc_ ?_ _ | with_reducible refine Bl.trans_ ?_ (by assumption) | with_reducible refine Bl.trans_ ?_ (And.left (by assumption))))⟩
      case measure => simp [intOf]; omega
    · go_wp2
      go_ret
      exact ⟨rfl, hbl⟩

set_option maxHeartbeats 1000000 in
theorem markInt64S_any (A : Option Addr) (n c : Nat) (k : Int) (w : World) (hn : n ≤ 1048576) (hk0 : 0 ≤ k) (hk1 : k ≤ 1099511627776) (HR : RowsW 2 1 w A n) :
    Calls Try.prog 20 #[.slice A n c, .int .i64 k] w (MarkRows 2 1 A n k w) := by
  have R := Lib.hid HR
  clear HR
  rcases Nat.eq_zero_or_pos n with rfl | hpos
  · go_enter Try.func20, Try.ntmps20
    go_wp2
    refine wp_loop_rounds 1 ?_
    rw [rounds_succ]
    go_wp2
    go_ret
    exact ⟨ret_int (by simp), fun h => absurd h (by omega), World.grownBy.refl w _, R.out⟩
  · obtain ⟨g, off, m, f, rfl, hm, hr⟩ := R.out hpos
    have hg := hr.lt
    have R0 := Lib.hid hr
    clear hr R
    go_enter Try.func20, Try.ntmps20
    go_wp2
    go_loopw [1, 5] (fun q i wr => ∃ (j : Nat) (f : Nat → Value), j ≤ n ∧ i = .int .i64 j ∧ q = .int .i64 (k + j) ∧ wr.rowIs g 2 m f ∧ w.grownBy wr (some g) ∧ wr.heap.size = w.heap.size ∧
      ∀ t, t < j → f (off + t) = .int .i64 (k + t)) (fun _ i _ => n - (intOf i).toNat)
    case atStart => exact ⟨0, f, by omega, rfl, by simp, R0.out, World.grownBy.refl w _, rfl, fun t h => absurd h (by omega)⟩
    case round =>
      obtain ⟨j, fj, hj, rfl, rfl, hrj, hgr, hsz, hf⟩ := hrel
      have F := Lib.hid hf
      have RJ := Lib.hid hrj
      have GR := Lib.hid hgr
      have SZ := Lib.hid hsz
      by_cases hlt : j < n
      · have q0 := hrj.cell (i := off + j) (by omega)
        have q1 := hrj.frozen (off + j)
        clear hf hrj hgr hsz
        go_wp2
        go_roundw
        case rel => 
          refine ⟨j + 1, _, by omega, by go_num, by go_num, RJ.out.set (off + j) _, grown_set GR.out (.inl rfl) _, by rw [World.size_setCell]; exact SZ.out, fun t ht => ?_⟩
          rcases Nat.lt_or_ge t j with h | h
          · rw [if_neg (by omega)]
            exact F.out t h
          · have e : t = j := by omega
            subst e
            rw [if_pos rfl]
        case measure => simp [intOf]; omega
      · clear hf hrj hgr hsz
        go_wp2
        go_ret
        have e : j = n := by omega
        subst e
        refine ⟨ret_int (by simp), fun _ => ⟨g, off, rfl, by rw [SZ.out]; exact hg, fun t ht => ?_⟩, GR.out, fun _ => ⟨g, off, m, fj, rfl, hm, RJ.out⟩⟩
        rw [Nat.mul_one] at ht
        rw [← F.out t ht]
        exact RJ.out.cell (by omega)

set_option maxHeartbeats 1000000 in
theorem heldInt64S_any (A : Option Addr) (n c : Nat) (k : Int) (w : World) (hn : n ≤ 1048576) (hk0 : 0 ≤ k) (hk1 : k ≤ 1099511627776) (HM : Marks w A n k) :
    Calls Try.prog 21 #[.slice A n c, .int .i64 k] w fun e w' => e = .returned (.int .i64 (k + n)) ∧ w = w' := by
  have M := Lib.hid HM
  clear HM
  rcases Nat.eq_zero_or_pos n with rfl | hpos
  · go_enter Try.func21, Try.ntmps21
    go_wp2
    refine wp_loop_rounds 1 ?_
    rw [rounds_succ]
    go_wp2
    go_ret
    exact ⟨ret_int (by simp), rfl⟩
  · obtain ⟨g, off, rfl, hg, hc⟩ := M.out hpos
    have C := Lib.hid hc
    clear hc M
    go_enter Try.func21, Try.ntmps21
    go_wp2
    go_loop [1, 5] (fun q i => ∃ j : Nat, j ≤ n ∧ i = .int .i64 j ∧ q = .int .i64 (k + j)) (fun _ i => n - (intOf i).toNat)
    case atStart => exact ⟨0, by omega, rfl, by simp⟩
    case round =>
      obtain ⟨j, hj, rfl, rfl⟩ := hrel
      by_cases hlt : j < n
      · have z1 := C.out j hlt
        have b1 : (k + (j : Int) != k + j) = false := by simp
        go_wp2
        go_round
        case rel => exact ⟨j + 1, by omega, by go_num, by go_num⟩
        case measure => simp [intOf]; omega
      · go_wp2
        go_ret
        have e : j = n := by omega
        subst e
        exact ⟨ret_int rfl, rfl⟩

theorem make_ints (n : Nat) (hn : n ≤ 1048576) (w : World) : (Instr.makeSlice 22 (.int .i64 (n : Int)) (.int .i64 (n : Int))).run Try.prog w = .ok (.slice (some ⟨w.heap.size, 0, none⟩) n n) (w.alloc (.cells (madeCells #[.int .i64 0] (n * 1)) 2)) := by
  obtain ⟨i0, hi, hz0, hz1, hz2⟩ := info_parts infoInt
  have h := run_make_rowN (P := Try.prog) 22 2 i0 (.int .i64 0) Try.underlying22 hi hz0 .i64 .i64 n n (Nat.le_refl _) (by rw [hz2]; omega) (by omega) w
  rw [hz1] at h
  exact h

set_option maxHeartbeats 400000 in
theorem szInt64S_any (A : Option Addr) (n c : Nat) (l : Int) (w : World) (hn : n ≤ 9223372036854775807) (hl0 : 0 ≤ l) (hl1 : l ≤ 1048576) :
    Calls Try.prog 63 #[.slice A n c, .int .i64 l] w fun e w' => e = .returned (.int .i64 (if l - n < 0 then -1 else l - n)) ∧ w = w' := by
  by_cases h1 : l - n < 0
  · go_enter Try.func63, Try.ntmps63
    go_wp2
    go_ret
    exact ⟨ret_int (by first | rfl | rw [if_pos h1]), rfl⟩
  · go_enter Try.func63, Try.ntmps63
    go_wp2
    go_ret
    exact ⟨ret_int (by first | rfl | rw [if_neg (by omega)]), rfl⟩

/-- What the marks leave. -/
def MarkN (A : Option Addr) (n : Nat) (k : Int) (w : World) (e : Ending) (w' : World) : Prop :=
  e = .returned (.int .i64 (k + n)) ∧ Marks w' A n k ∧ w.grownBy w' (blockOf A) ∧ RowsW 2 1 w' A n
theorem markN_any (A : Option Addr) (n c : Nat) (k : Int) (w : World) (hn : n ≤ 1048576) (hk0 : 0 ≤ k) (hk1 : k ≤ 1099511627776) (HR : RowsW 2 1 w A n) :
    Calls Try.prog 20 #[.slice A n c, .int .i64 k] w (MarkN A n k w) :=
  (markInt64S_any A n c k w hn hk0 hk1 HR).mono fun e w' h => by
    obtain ⟨a, b, c, d⟩ := h
    rw [Nat.mul_one] at a b
    exact ⟨a, b, c, d⟩

end Go.Proofs.Ytffjpfanmnkmgaa

set_option linter.unusedSimpArgs false
set_option linter.unusedVariables false
namespace Go.Proofs.Ytffjpfanmnkmgaa
open Go.RowKit

/-- How far all nodes are from s; none, where there is no such node or the graph is not right. -/
def distFromL (N : Int) (L : List Arc3) (s : Int) : List Int := if has1 N L s = true then distL N L s else []
def distOfI (N : Int) (L : List Arc3) (s t : Int) : Int := if has2 N L s t = true then dAt (distL N L s) t else -1
theorem has1_of {N s : Int} {L : List Arc3} (h : has1 N L s = true) : okB N L = true ∧ 0 ≤ s ∧ s < N := by simpa [has1] using h
theorem has2_of {N s t : Int} {L : List Arc3} (h : has2 N L s t = true) : okB N L = true ∧ (0 ≤ s ∧ s < N) ∧ (0 ≤ t ∧ t < N) := by simpa [has2] using h
theorem distL_len {N s : Int} {L : List Arc3} (ho : okB N L = true) (h0 : 0 ≤ s) (h1 : s < N) : (distL N L s).length = N.toNat :=
  (distL_is (arcsIn_of_ok ho) (okB_elim ho).2.1 h0 h1).len
theorem distL_top {N s : Int} {L : List Arc3} (ho : okB N L = true) (h0 : 0 ≤ s) (h1 : s < N) (v : Int) : -1 ≤ dAt (distL N L s) v ∧ dAt (distL N L s) v ≤ 23000 := by
  have h := distL_is (arcsIn_of_ok ho) (okB_elim ho).2.1 h0 h1
  exact ⟨h.low v, h.top (arcsIn_of_ok ho) (okB_elim ho).2.1 h0 h1 v⟩

theorem box1b {w wx : World} {o : Obj} {a : Value} {t : TypeId} (h : Bl ((w.alloc o).alloc (.cells #[a] t)) wx) : wx.cell? ⟨w.heap.size + 1, 0, none⟩ = some a := by
  have hc := (bcell h).1
  rw [hc _ _ (by simp)]; simp [go_sem]

theorem there_new (w : World) (t : TypeId) : (w.alloc (.cells #[.int .i64 0, .int .i64 0, .int .i64 0, .int .i64 0, .int .i64 0, .int .i64 0, .int .i64 0, .int .i64 0, .int .i64 0, .int .i64 0, .int .i64 0, .int .i64 0, .int .i64 0, .int .i64 0, .int .i64 0, .int .i64 0, .int .i64 0, .int .i64 0, .int .i64 0, .int .i64 0, .int .i64 0, .int .i64 0, .int .i64 0, .int .i64 0] t)).there w.heap.size 0 24 := by
  refine there_of_cells fun i hi => ?_
  match i, hi with
  | 0, _ | 1, _ | 2, _ | 3, _ | 4, _ | 5, _ | 6, _ | 7, _ | 8, _ | 9, _ | 10, _ | 11, _ | 12, _ | 13, _ | 14, _ | 15, _ | 16, _ | 17, _ | 18, _ | 19, _ | 20, _ | 21, _ | 22, _ | 23, _ => simp [go_sem]
  | (k + 24), h => exact absurd h (by omega)
theorem size24 : (Try.prog.info? 99).map (·.size) = some 24 := by kernel_rfl

theorem index24 (E : List Int) (hE : E.length = 24) (u : Nat) (hu : u < 24) (w : World) : (Instr.index 99 (.agg (E.map (Value.int .i64)).toArray) (.int .i64 (u : Int))).run Try.prog w = .ok (.int .i64 (dAt E u)) w := by
  have h1 : (0 : Int) ≤ (u : Int) ∧ (u : Int) < 24 := by omega
  have hz : (Go.sizeOf 2).run Try.prog w = .ok 1 w := by kernel_rfl
  have ha : (Go.isAgg 2).run Try.prog w = .ok false w := by kernel_rfl
  have hg : E[u]?.getD (-1) = E[u] := by simp [hE, hu]
  unfold Instr.index
  simp [Sem.run_bind, asIntOf, run_underlying Try.underlying99, Result.andThen, h1, hz, ha, part, dAt, hE, hu]

set_option maxRecDepth 100000 in
set_option maxHeartbeats 1000000 in
theorem implDistOf_any (N s t : Int) (A : Option Addr) (n c : Nat) (L : List Arc3) (hn : n = L.length) (hc : n ≤ c) (w : World) (hm : n ≤ 1048576) (H1 : ArcsAt w w.heap.size A L) :
    Calls Try.prog 32 #[.agg #[.int .i64 N, .slice A n c], .int .i64 s, .int .i64 t] w fun e w' => e = .returned (.int .i64 (distOfI N L s t)) ∧ Bl w w' := by
  have K1 := Lib.hid H1
  have HN := Lib.hid hn
  clear H1 hn
  cases hh : has2 N L s t with
  | false =>
    have HH := Lib.hid hh
    clear hh
    go_enter Try.func32, Try.ntmps32
    go_wp2_with fail
    refine (hasNodes_2 N s t A n c L HN.out (w.heap.size + 1) 2 _ (by omega) (K1.out.bl (by repeat' (first | exact Bl.refl _ | with_reducible assumption | with_reducible refine Bl.drew_ ?_ | with_reducible refine Bl.drewN_ ?_ _ | with_reducible refine Bl.alloc_ ?_ _ | with_reducible refine Bl.trans_ ?_ (by assumption) | with_reducible refine Bl.trans_ ?_ (And.left (by assumption))))) (by simp) (by simp [go_sem]) (by simp [go_sem])).mono ?_
    rintro e w1 ⟨rfl, hb1⟩
    rw [HH.out]
    go_wp2
    go_ret
    exact ⟨ret_int (by unfold distOfI; rw [if_neg (by rw [HH.out]; simp)]), (by repeat' (first | exact Bl.refl _ | with_reducible assumption | with_reducible refine Bl.drew_ ?_ | with_reducible refine Bl.drewN_ ?_ _ | with_reducible refine Bl.alloc_ ?_ _ | with_reducible refine Bl.trans_ ?_ (by assumption) | with_reducible refine Bl.trans_ ?_ (And.left (by assumption))))⟩
  | true =>
    have HH := Lib.hid hh
    obtain ⟨ho, ⟨hs0, hs1⟩, ht0, ht1⟩ := has2_of hh
    have hN24 := (okB_elim ho).2.1
    have HO := Lib.hid ho
    obtain ⟨u, rfl⟩ : ∃ u : Nat, t = u := ⟨t.toNat, by omega⟩
    clear hh ho
    go_enter Try.func32, Try.ntmps32
    go_wp2_with fail
    refine (hasNodes_2 N s u A n c L HN.out (w.heap.size + 1) 2 _ (by omega) (K1.out.bl (by repeat' (first | exact Bl.refl _ | with_reducible assumption | with_reducible refine Bl.drew_ ?_ | with_reducible refine Bl.drewN_ ?_ _ | with_reducible refine Bl.alloc_ ?_ _ | with_reducible refine Bl.trans_ ?_ (by assumption) | with_reducible refine Bl.trans_ ?_ (And.left (by assumption))))) (by simp) (by simp [go_sem]) (by simp [go_sem])).mono ?_
    rintro e w1 ⟨rfl, hb1⟩
    rw [HH.out]
    have hx := (bcell hb1).1
    have q0 : w1.cell? ⟨w.heap.size, 0, none⟩ = some (.int .i64 N) := (hx _ _ (by simp; omega)).trans (by simp [go_sem])
    have q1 : w1.cell? ⟨w.heap.size, 1, none⟩ = some (.slice A n c) := (hx _ _ (by simp; omega)).trans (by simp [go_sem])
    have hbw : Bl w w1 := (((Bl.refl w).alloc_ _).alloc_ _).trans_ hb1
    clear hx hb1
    go_wp2_with fail
    refine (distances_any N s A n c L HN.out hc HO.out hs0 hs1 _ (K1.out.bl hbw)).mono ?_
    rintro e w2 ⟨E, rfl, hE, hEd, hb2⟩
    have EL := Lib.hid hE
    have ED := Lib.hid hEd
    clear hE hEd q0 q1
    have hix := index24 E EL.out u (by omega) w2
    have hd : dAt E (u : Int) = distOfI N L s u := by
      unfold distOfI
      rw [if_pos HH.out, ← ED.out]
      unfold dAt
      simp only [List.getD_eq_getElem?_getD]
      rw [List.getElem?_take, if_pos (by omega)]
    rw [hd] at hix
    clear hd
    go_wp2
    go_ret
    exact ⟨ret_int rfl, hbw.trans_ hb2⟩

set_option maxRecDepth 100000 in
set_option maxHeartbeats 2000000 in
theorem implDistFrom_any (N s : Int) (A : Option Addr) (n c : Nat) (L : List Arc3) (hn : n = L.length) (hc : n ≤ c) (w : World) (hm : n ≤ 1048576) (H1 : ArcsAt w w.heap.size A L) :
    Calls Try.prog 57 #[.agg #[.int .i64 N, .slice A n c], .int .i64 s] w (NumsMade (distFromL N L s) w) := by
  obtain ⟨i0, hi, hz0, hz1, hz2⟩ := info_parts infoInt
  have I0 := Lib.hid hi
  have I1 := Lib.hid hz0
  have I2 := Lib.hid hz1
  have I3 := Lib.hid hz2
  have K1 := Lib.hid H1
  have HN := Lib.hid hn
  clear H1 hn hi hz0 hz1 hz2
  cases hh : has1 N L s with
  | false =>
    have HH := Lib.hid hh
    clear hh
    go_enter Try.func57, Try.ntmps57
    go_wp2_with fail
    refine (hasNodes_1 N s A n c L HN.out (w.heap.size + 1) 1 _ (by omega) (K1.out.bl (by repeat' (first | exact Bl.refl _ | with_reducible assumption | with_reducible refine Bl.drew_ ?_ | with_reducible refine Bl.drewN_ ?_ _ | with_reducible refine Bl.alloc_ ?_ _ | with_reducible refine Bl.trans_ ?_ (by assumption) | with_reducible refine Bl.trans_ ?_ (And.left (by assumption))))) (by simp) (by simp [go_sem])).mono ?_
    rintro e w1 ⟨rfl, hb1⟩
    rw [HH.out]
    go_wp2
    go_ret
    exact ⟨_, rfl, by unfold distFromL; rw [if_neg (by rw [HH.out]; simp)]; exact OwnN.nil_ _ _, (by repeat' (first | exact Bl.refl _ | with_reducible assumption | with_reducible refine Bl.drew_ ?_ | with_reducible refine Bl.drewN_ ?_ _ | with_reducible refine Bl.alloc_ ?_ _ | with_reducible refine Bl.trans_ ?_ (by assumption) | with_reducible refine Bl.trans_ ?_ (And.left (by assumption))))⟩
  | true =>
    have HH := Lib.hid hh
    obtain ⟨ho, hs0, hs1⟩ := has1_of hh
    have hN24 := (okB_elim ho).2.1
    have HO := Lib.hid ho
    obtain ⟨k, rfl⟩ : ∃ k : Nat, N = k := ⟨N.toNat, by omega⟩
    clear hh ho
    go_enter Try.func57, Try.ntmps57
    go_wp2_with fail
    refine (hasNodes_1 k s A n c L HN.out (w.heap.size + 1) 1 _ (by omega) (K1.out.bl (by repeat' (first | exact Bl.refl _ | with_reducible assumption | with_reducible refine Bl.drew_ ?_ | with_reducible refine Bl.drewN_ ?_ _ | with_reducible refine Bl.alloc_ ?_ _ | with_reducible refine Bl.trans_ ?_ (by assumption) | with_reducible refine Bl.trans_ ?_ (And.left (by assumption))))) (by simp) (by simp [go_sem])).mono ?_
    rintro e w1 ⟨rfl, hb1⟩
    rw [HH.out]
    have hx := (bcell hb1).1
    have q0 : w1.cell? ⟨w.heap.size, 0, none⟩ = some (.int .i64 (k : Int)) := (hx _ _ (by simp; omega)).trans (by simp [go_sem])
    have q1 : w1.cell? ⟨w.heap.size, 1, none⟩ = some (.slice A n c) := (hx _ _ (by simp; omega)).trans (by simp [go_sem])
    have hbw : Bl w w1 := (((Bl.refl w).alloc_ _).alloc_ _).trans_ hb1
    have hsw : w.heap.size < w1.heap.size := by have := hb1.size; simp at this; omega
    clear hx hb1
    go_wp2_with fail
    refine (distances_any k s A n c L HN.out hc HO.out hs0 hs1 _ (K1.out.bl hbw)).mono ?_
    rintro e w2 ⟨E, rfl, hE, hEd, hb2⟩
    have EL := Lib.hid hE
    have ED := Lib.hid hEd
    have s2 := hb2.size
    have r0 := ((bcell hb2).1 _ _ hsw).trans q0
    clear hE hEd q0 q1
    have HB2 := Lib.hid (hbw.trans_ hb2)
    clear hb2 hbw
    have NS := Lib.hid (NumsAt.stored EL.out (by simp) (there_new w2 99))
    have HR := Lib.hid (show Reads ((w2.alloc (.cells #[.int .i64 0, .int .i64 0, .int .i64 0, .int .i64 0, .int .i64 0, .int .i64 0, .int .i64 0, .int .i64 0, .int .i64 0, .int .i64 0, .int .i64 0, .int .i64 0, .int .i64 0, .int .i64 0, .int .i64 0, .int .i64 0, .int .i64 0, .int .i64 0, .int .i64 0, .int .i64 0, .int .i64 0, .int .i64 0, .int .i64 0, .int .i64 0] 99)).setCells w2.heap.size 0 (csI E)) (w2.heap.size + 1) 1 (some ⟨w2.heap.size, 0, none⟩) k (csI (distFromL k L s)) from by
      have hk : distFromL k L s = E.take k := by
        unfold distFromL
        rw [if_pos HH.out, ← ED.out]
        simp
      refine reads_of_cells (fun _ => ⟨w2.heap.size, 0, rfl, by omega, fun j hj => ?_⟩) (by rw [csI_len, hk, List.length_take, EL.out]; omega) (by decide)
      rw [csI_len] at hj
      rw [Nat.zero_add, csI_at]
      have hj' : j < E.length := by rw [hk, List.length_take] at hj; omega
      have := NS.out.cell j hj'
      simp only [hk, List.getElem_take]
      exact this)
    have hk0 : (0 : Int) ≤ (k : Int) := by omega
    have hlen : k = (distFromL k L s).length := by
      unfold distFromL
      rw [if_pos HH.out, distL_len HO.out hs0 hs1]
      simp
    have HLEN := Lib.hid hlen
    have hbS := Bl.setCells_ w2.heap.size (Nat.le_refl _) (csI E) 0 _ ((Bl.refl w2).alloc_ (.cells #[.int .i64 0, .int .i64 0, .int .i64 0, .int .i64 0, .int .i64 0, .int .i64 0, .int .i64 0, .int .i64 0, .int .i64 0, .int .i64 0, .int .i64 0, .int .i64 0, .int .i64 0, .int .i64 0, .int .i64 0, .int .i64 0, .int .i64 0, .int .i64 0, .int .i64 0, .int .i64 0, .int .i64 0, .int .i64 0, .int .i64 0, .int .i64 0] 99))
    have HBS := Lib.hid hbS
    have r1 := ((bcell hbS).1 w.heap.size 0 (by omega)).trans r0
    have hz := setCells_size w2.heap.size (csI E) 0 (w2.alloc (.cells #[.int .i64 0, .int .i64 0, .int .i64 0, .int .i64 0, .int .i64 0, .int .i64 0, .int .i64 0, .int .i64 0, .int .i64 0, .int .i64 0, .int .i64 0, .int .i64 0, .int .i64 0, .int .i64 0, .int .i64 0, .int .i64 0, .int .i64 0, .int .i64 0, .int .i64 0, .int .i64 0, .int .i64 0, .int .i64 0, .int .i64 0, .int .i64 0] 99))
    have HZ := Lib.hid hz
    clear hbS r0 hlen hz
    go_wp2_with (first | (refine wpList_store_mid rfl 99 (.tmp 5) (.tmp 13) rfl w2.heap.size 0 (csI E).toArray rfl rfl ?c1 ?c2 (csI_one _) ?_) | (at_builtin; refine wpList_append_any _ rfl _ _ _ rfl w.heap.size 2 i0 _ 1 8 Try.underlying22 I0.out I1.out I2.out I3.out rfl (by decide) (.slice none 0 0) 0 [] rfl (World.ownsRow_nil _ _ _ _) (w2.heap.size + 1) (some ⟨w2.heap.size, 0, none⟩) k 24 (csI (distFromL k L s)) rfl HR.out ?c6 ?c3 ?c4 ?c5 ?_))
    case c1 => simpa [csI_len, EL.out] using there_new w2 _
    case c2 => simpa [csI_len, EL.out] using size24
    case c3 => unfold maxLen; omega
    case c4 => omega
    case c5 => exact (HB2.out.trans_ HBS.out).size
    case c6 => exact csI_one' _
    intro v w3 hown hgr _
    try simp only [Nat.zero_add, List.nil_append] at hown
    have O := Lib.hid (show OwnN w3 w.heap.size v (distFromL k L s) from by unfold OwnN Owns; rw [← HLEN.out]; exact hown)
    have B3 : Bl w w3 := (HB2.out.trans_ HBS.out).grown_ hgr (fun g hg => by cases hg)
    clear hown hgr
    go_wp2
    go_ret
    exact ⟨v, rfl, O.out, B3⟩

end Go.Proofs.Ytffjpfanmnkmgaa

set_option linter.unusedSimpArgs false
set_option linter.unusedVariables false
namespace Go.Proofs.Ytffjpfanmnkmgaa
open Go.RowKit

theorem OwnN.snoc {w : World} {B : Nat} {v : Value} {V : List Int} {x : Int} {n : Nat} (hn : n = V.length) (h : w.ownsRow B 2 1 v (n + 1) (csI V ++ [.int .i64 x])) : OwnN w B v (V ++ [x]) := by
  unfold OwnN Owns
  rw [List.length_append, ← hn]
  simpa [csI] using h
/-- What holds where a word is true, and where it is not. -/
def IfT (b : Bool) (P : Prop) : Prop := b = true → P
def IfF (b : Bool) (P : Prop) : Prop := b = false → P
/-- A list of numbers of one's own, in a block. -/
def RowN (w : World) (g c : Nat) (V : List Int) : Prop := OwnN w g (.slice (some ⟨g, 0, none⟩) V.length c) V
theorem RowN.cells {w : World} {g c : Nat} {V : List Int} (h : RowN w g c V) : (∀ o, w.frozen? ⟨g, o, none⟩ = false) ∧ (∀ k (hk : k < V.length), w.cell? ⟨g, k, none⟩ = some (.int .i64 V[k])) := by
  refine ⟨fun o => World.ownsRow.frozenAt h o, fun k hk => ?_⟩
  rw [World.ownsRow.cellAt h k (by omega), List.getElem?_eq_getElem (by rw [csI_len]; exact hk), csI_at]
theorem RowN.bl {w w' : World} {g c : Nat} {V : List Int} (h : RowN w g c V) (hb : Bl w w') : RowN w' g c V := OwnN.bl h hb
theorem RowN.set {w : World} {g c : Nat} {V : List Int} (h : RowN w g c V) (k : Nat) (x : Int) : RowN (w.setCell ⟨g, k, none⟩ (.int .i64 x)) g c (V.set k x) := by
  have h' := (Owns.stored h k (.int .i64 x)).1
  unfold RowN OwnN
  rw [List.length_set]
  have e : csI (V.set k x) = (csI V).set k (.int .i64 x) := by simp [csI, List.map_set]
  rw [e]
  exact h'

theorem OwnN.toRow {w : World} {B : Nat} {v : Value} {V : List Int} (h : OwnN w B v V) (h0 : 0 < V.length) : ∃ g c, v = .slice (some ⟨g, 0, none⟩) V.length c ∧ B ≤ g ∧ g < w.heap.size ∧ RowN w g c V := by
  obtain ⟨A, c, rfl, -, -, -, h3⟩ := Owns.shape h
  obtain ⟨g, rfl, hB, hg, -, -⟩ := h3 h0
  refine ⟨g, c, rfl, hB, hg, h.1, ?_⟩
  rcases h.2 with ⟨e, h1⟩ | ⟨g', cap, cur, e, hB', r⟩
  · simp at e
  · have e' := e
    injection e with e1 e2 e3
    injection e1 with e1
    injection e1 with e1
    exact .inr ⟨g', cap, cur, e', by omega, r⟩
theorem RowN.own {w : World} {g c B : Nat} {V : List Int} (h : RowN w g c V) (hB : B ≤ g) : OwnN w B (.slice (some ⟨g, 0, none⟩) V.length c) V := OwnN.low h hB
theorem RowN.lt {w : World} {g c : Nat} {V : List Int} (h : RowN w g c V) : g < w.heap.size := (Owns.lt_ h g rfl).2

set_option maxRecDepth 100000 in
set_option maxHeartbeats 4000000 in
theorem l3Dist_any (N s : Int) (A : Option Addr) (n c : Nat) (L : List Arc3) (hn : n = L.length) (ho : okB N L = true) (h0 : 0 ≤ s) (h1 : s < N) (w : World) (hm : n ≤ 1048576) (H1 : ArcsAt w w.heap.size A L) :
    Calls Try.prog 106 #[.agg #[.int .i64 N, .slice A n c], .int .i64 s] w (NumsMade (distL N L s) w) := by
  obtain ⟨i0, hi, hz0, hz1, hz2⟩ := info_parts infoInt
  have I0 := Lib.hid hi
  have I1 := Lib.hid hz0
  have I2 := Lib.hid hz1
  have I3 := Lib.hid hz2
  have K1 := Lib.hid H1
  have HN := Lib.hid hn
  have HO := Lib.hid ho
  have hN24 := (okB_elim ho).2.1
  have hL150 := (okB_elim ho).2.2.1
  obtain ⟨m, rfl⟩ : ∃ m : Nat, N = m := ⟨N.toNat, by omega⟩
  obtain ⟨q, rfl⟩ : ∃ q : Nat, s = q := ⟨s.toNat, by omega⟩
  have hm24 : m ≤ 24 := by omega
  have hqm : q < m := by omega
  clear H1 hn hi hz0 hz1 hz2 ho
  go_enter Try.func106, Try.ntmps106
  go_wp2_with fail
  go_loopw [5, 6] (fun v i wr => ∃ k : Nat, k ≤ m ∧ i = .int .i64 k ∧ OwnN wr (w.heap.size + 1) v (List.replicate k (-1)) ∧ Bl (w.alloc (.cells #[.int .i64 (m : Int), .slice A n c] 38)) wr) (fun _ i _ => m - (intOf i).toNat)
  case atStart =>
    refine ⟨0, by omega, rfl, ?_, (by repeat' (first | exact Bl.refl _ | with_reducible assumption | with_reducible refine Bl.drew_ ?_ | with_reducible refine Bl.drewN_ ?_ _ | with_reducible refine Bl.alloc_ ?_ _ | with_reducible refine Bl.trans_ ?_ (by assumption) | with_reducible refine Bl.trans_ ?_ (And.left (by assumption))))⟩
    have h := World.ownsRow_made (base := w.heap.size + 1) (e := 2) (size := 1) (w.alloc (.cells #[.int .i64 (m : Int), .slice A n c] 38)) #[] 0 (by simp) (by unfold maxLen; omega) rfl
    rw [World.size_alloc] at h
    exact h
  case round =>
    obtain ⟨k, hk, rfl, hown, hbl⟩ := hrel
    have hs := hbl.size
    simp only [World.size_alloc] at hs
    obtain ⟨q0, q1⟩ := box2 hbl
    have O := Lib.hid hown
    have HB := Lib.hid hbl
    clear hown hbl
    by_cases hlt : k < m
    · go_wp2_with (at_builtin; refine wpList_append_own _ rfl (.tmp 18) (.tmp 19) _ rfl (w.heap.size + 1) 2 i0 _ 1 8 Try.underlying22 I0.out I1.out I2.out I3.out rfl (by decide) _ (List.replicate k (-1)).length (csI (List.replicate k (-1))) rfl (World.ownsRow.alloc O.out _) ⟨wr.heap.size, 0, none⟩ 1 1 [.int .i64 (-1)] rfl rfl ?c0 (by simp [Value.oneCell']) ?c3 ?c4 ?c5 ?_)
      case c0 => 
        intro j u hj
        match j, hj with
        | 0, hj => simp at hj; subst hj; simp [Addr.add, go_sem]
        | (j + 1), hj => simp at hj
      case c3 => unfold maxLen; simp; omega
      case c4 => simp; omega
      case c5 => simp; omega
      intro v' w1 hown' hgrow _
      have O1 := Lib.hid (OwnN.snoc (V := List.replicate k (-1)) (x := -1) (n := k) (by simp) (by simpa using hown'))
      have hb1 : Bl (w.alloc (.cells #[.int .i64 (m : Int), .slice A n c] 38)) w1 := (HB.out.alloc_ _).grown_ hgrow (fun g hg => by have := (Owns.lt O.out g hg).1; simpa using this)
      have hb1' := Lib.hid hb1
      obtain ⟨q2, q3⟩ := box2 hb1
      clear hown' hgrow q0 q1 hb1
      go_wp2
      go_roundw
      case rel => exact ⟨k + 1, by omega, by go_num, by rw [List.replicate_succ']; exact O1.out, hb1'.out⟩
      case measure => simp [intOf]; omega
    · obtain rfl : k = m := by omega
      obtain ⟨g, c', rfl, hBg, hgl, hrow⟩ := O.out.toRow (by simp; omega)
      have hcl := hrow.cells
      have p0 := hcl.2 q (by simp; exact hqm)
      have p1 := hcl.1 q
      rw [List.getElem_replicate] at p0
      rw [List.length_replicate]
      have hq0 : (0 : Int) ≤ (q : Int) := by omega
      have hq1 : (q : Int) < (k : Int) := by omega
      have R0 := Lib.hid (show RowN (wr.setCell ⟨g, q, none⟩ (.int .i64 0)) g c' (startD k q) from by
        have := hrow.set q 0
        unfold startD
        simpa using this)
      have HB0 := Lib.hid (show Bl (w.alloc (.cells #[.int .i64 (k : Int), .slice A n c] 38)) (wr.setCell ⟨g, q, none⟩ (.int .i64 0)) from HB.out.set_ (by simp; omega) _)
      clear hcl hrow
      go_wp2_with fail
      clear p0 p1 q0 q1
      go_loopg [7] (sumF potF (startD k q) + 1) (fun t mo wr => ∃ (D : List Int) (b : Bool), mo = .bool b ∧ Hid (Rel k L q D) ∧ Hid (RowN wr g c' D) ∧ Hid (Bl (w.alloc (.cells #[.int .i64 (k : Int), .slice A n c] 38)) wr) ∧ IfT b (sumF potF D + 1 ≤ t) ∧ IfF b (IsDist k L q D))
      case atStart => exact ⟨startD k q, true, rfl, Lib.hid (Rel.start_ (by omega) (by omega)), R0, HB0, fun _ => Nat.le_refl _, fun h => nomatch h⟩
      case round =>
        obtain ⟨D, b, rfl, RE, RO, BB, po, di⟩ := hrel
        have PO := Lib.hid po
        have DI := Lib.hid di
        clear po di
        have hDl : D.length = k := by have := RE.out.len; simpa using this
        have HDL := Lib.hid hDl
        clear hDl
        cases b with
        | false =>
          go_wp2_with fail
          go_ret
          have hD := distL_of (arcsIn_of_ok HO.out) (by omega) (by omega) (by omega) (DI.out rfl)
          refine ⟨_, rfl, ?_, (Bl.alloc_ (Bl.refl w) _).trans_ BB.out⟩
          rw [← hD]
          have := RO.out.own (B := w.heap.size) (by omega)
          rw [HDL.out] at this
          exact this
        | true =>
          obtain ⟨q0, q1⟩ := box2 BB.out
          go_wp2_with fail
          clear q0 q1
          go_loopw [7, 8] (fun mo i wr => ∃ (j : Nat) (E : List Int) (b : Bool), j ≤ n ∧ i = .int .i64 j ∧ mo = .bool b ∧ Hid (Rel k L q E) ∧ Hid (RowN wr g c' E) ∧ Hid (Bl (w.alloc (.cells #[.int .i64 (k : Int), .slice A n c] 38)) wr) ∧
            IfT b (sumF potF E < sumF potF D) ∧ IfF b (E = D ∧ ∀ t (h : t < L.length), t < j → nearer D L[t] = false)) (fun _ i _ => n - (intOf i).toNat)
          case atStart => exact ⟨0, D, false, by omega, rfl, rfl, RE, RO, BB, (fun h => nomatch h), fun _ => ⟨rfl, fun t h h' => absurd h' (by omega)⟩⟩
          case round =>
            obtain ⟨j, E, b, hj, rfl, rfl, RE2, RO2, BB2, less, same⟩ := hrel
            have LESS := Lib.hid less
            have SAME := Lib.hid same
            clear less same
            obtain ⟨q0, q1⟩ := box2 BB2.out
            have hEl : E.length = k := by have := RE2.out.len; simpa using this
            have HEL := Lib.hid hEl
            clear hEl
            by_cases hlt : j < n
            · have hjl : j < L.length := by have := HN.out; omega
              have hbw : Bl w wr := (Bl.alloc_ (Bl.refl w) _).trans_ BB2.out
              obtain ⟨g1, o1, rfl, hg1, hc1⟩ := K1.out (by omega)
              obtain ⟨p1, p2, p3⟩ := hc1 j hjl
              rw [← (bcell hbw).1 _ _ hg1] at p1 p2 p3
              obtain ⟨a0, a1, a2, a3, a4, a5⟩ := arcsIn_of_ok HO.out L[j] (List.getElem_mem hjl)
              have AM := Lib.hid (show L[j] ∈ L from List.getElem_mem hjl)
              have hgl2 := RO2.out.lt
              have hg1l : g1 < wr.heap.size := Nat.lt_of_lt_of_le hg1 hbw.size
              clear hc1 hbw
              generalize hAA : L[j] = aa at *
              obtain ⟨x, y, z⟩ := aa
              simp only at a0 a1 a2 a3 a4 a5 p1 p2 p3
              obtain ⟨u, rfl⟩ : ∃ u : Nat, x = u := ⟨x.toNat, by omega⟩
              obtain ⟨v, rfl⟩ : ∃ v : Nat, y = v := ⟨y.toNat, by omega⟩
              have huk : u < k := by omega
              have hvk : v < k := by omega
              obtain ⟨hfz, hcl⟩ := RO2.out.cells
              have c1 := hcl u (by rw [HEL.out]; exact huk)
              have c2 := hcl v (by rw [HEL.out]; exact hvk)
              have f2 := hfz v
              clear hfz hcl
              have e1 : E[u]'(by rw [HEL.out]; exact huk) = dAt E (u : Int) := by simp [dAt, HEL.out, huk]
              have e2 : E[v]'(by rw [HEL.out]; exact hvk) = dAt E (v : Int) := by simp [dAt, HEL.out, hvk]
              rw [e1] at c1
              rw [e2] at c2
              have b1 := RE2.out.bound (by omega) (u : Int)
              have b2 := RE2.out.bound (by omega) (v : Int)
              have b3 := RE2.out.low (u : Int)
              have b4 := RE2.out.low (v : Int)
              have HA := Lib.hid hAA
              clear e1 e2 hAA
              have hstep : nearer E ((u : Int), (v : Int), z) = true → Rel k L q (E.set v (dAt E (u : Int) + z)) ∧ sumF potF (E.set v (dAt E (u : Int) + z)) < sumF potF E := fun h => by
                have := RE2.out.step (arcsIn_of_ok HO.out) (by omega) AM.out h
                simpa using this
              have HST := Lib.hid hstep
              clear hstep
              generalize hdu : dAt E (u : Int) = du at *
              generalize hdv : dAt E (v : Int) = dv at *
              have hnr : nearer E ((u : Int), (v : Int), z) = decide (0 ≤ du ∧ (dv < 0 ∨ du + z < dv)) := by
                unfold nearer
                simp only [hdu, hdv]
              have HNR := Lib.hid hnr
              have no : nearer E ((u : Int), (v : Int), z) = false → IfF b (E = D ∧ ∀ t (h : t < L.length), t < j + 1 → nearer D L[t] = false) := fun hn hb => by
                obtain ⟨e, h⟩ := SAME.out hb
                refine ⟨e, fun t ht htj => ?_⟩
                rcases Nat.lt_or_ge t j with h' | h'
                · exact h t ht h'
                · obtain rfl : t = j := by omega
                  rw [HA.out, ← e]
                  exact hn
              have NO := Lib.hid no
              clear hdu hdv hnr no AM HA
              have i1 : (0 : Int) ≤ (u : Int) := by omega
              have i2 : (u : Int) < (k : Int) := by omega
              have i3 : (0 : Int) ≤ (v : Int) := by omega
              have i4 : (v : Int) < (k : Int) := by omega
              by_cases hdn : du < 0
              · have hnf : nearer E ((u : Int), (v : Int), z) = false := by rw [HNR.out]; simp; omega
                have NF := Lib.hid (NO.out hnf)
                clear hnf
                go_wp2_with fail
                go_roundw
                case rel => exact ⟨j + 1, E, b, by omega, by go_num, rfl, RE2, Lib.hid (RO2.out.bl (by repeat' (first | exact Bl.refl _ | with_reducible assumption | with_reducible refine Bl.drew_ ?_ | with_reducible refine Bl.drewN_ ?_ _ | with_reducible refine Bl.alloc_ ?_ _ | with_reducible refine Bl.trans_ ?_ (by assumption) | with_reducible refine Bl.trans_ ?_ (And.left (by assumption))))), Lib.hid (BB2.out.trans_ (by repeat' (first | exact Bl.refl _ | with_reducible assumption | with_reducible refine Bl.drew_ ?_ | with_reducible refine Bl.drewN_ ?_ _ | with_reducible refine Bl.alloc_ ?_ _ | with_reducible refine Bl.trans_ ?_ (by assumption) | with_reducible refine Bl.trans_ ?_ (And.left (by assumption))))), LESS.out, NF.out⟩
                case measure => simp [intOf]; omega
              · by_cases hnv : dv < 0
                · have hyes : nearer E ((u : Int), (v : Int), z) = true := by rw [HNR.out]; simp; omega
                  obtain ⟨hre, hpo⟩ := HST.out hyes
                  have RE3 := Lib.hid hre
                  have LS3 := Lib.hid (show sumF potF (E.set v (du + z)) < sumF potF D from by
                    cases hb : b with
                    | true => exact Nat.lt_trans hpo (LESS.out hb)
                    | false => rw [← (SAME.out hb).1]; exact hpo)
                  have hw : IntKind.i64.wrap (du + z) = du + z := IntWalk.i64_in _ (by omega)
                  clear hyes hre hpo
                  go_wp2_with fail
                  go_quiet (fail)
                  clear hw
                  go_wp2_with fail
                  go_roundw
                  case rel => exact ⟨j + 1, E.set v (du + z), true, by omega, by go_num, rfl, RE3, Lib.hid (RowN.set (RO2.out.bl (by repeat' (first | exact Bl.refl _ | with_reducible assumption | with_reducible refine Bl.drew_ ?_ | with_reducible refine Bl.drewN_ ?_ _ | with_reducible refine Bl.alloc_ ?_ _ | with_reducible refine Bl.trans_ ?_ (by assumption) | with_reducible refine Bl.trans_ ?_ (And.left (by assumption))))) v _), Lib.hid (Bl.set_ (BB2.out.trans_ (by repeat' (first | exact Bl.refl _ | with_reducible assumption | with_reducible refine Bl.drew_ ?_ | with_reducible refine Bl.drewN_ ?_ _ | with_reducible refine Bl.alloc_ ?_ _ | with_reducible refine Bl.trans_ ?_ (by assumption) | with_reducible refine Bl.trans_ ?_ (And.left (by assumption))))) (by simp; omega) _), (fun _ => LS3.out), fun h => nomatch h⟩
                  case measure => simp [intOf]; omega
                · by_cases hln : du + z < dv
                  · have hyes : nearer E ((u : Int), (v : Int), z) = true := by rw [HNR.out]; simp; omega
                    obtain ⟨hre, hpo⟩ := HST.out hyes
                    have RE3 := Lib.hid hre
                    have LS3 := Lib.hid (show sumF potF (E.set v (du + z)) < sumF potF D from by
                      cases hb : b with
                      | true => exact Nat.lt_trans hpo (LESS.out hb)
                      | false => rw [← (SAME.out hb).1]; exact hpo)
                    have hw : IntKind.i64.wrap (du + z) = du + z := IntWalk.i64_in _ (by omega)
                    clear hyes hre hpo
                    go_wp2_with fail
                    go_quiet (fail)
                    clear hw
                    go_wp2_with fail
                    go_roundw
                    case rel => exact ⟨j + 1, E.set v (du + z), true, by omega, by go_num, rfl, RE3, Lib.hid (RowN.set (RO2.out.bl (by repeat' (first | exact Bl.refl _ | with_reducible assumption | with_reducible refine Bl.drew_ ?_ | with_reducible refine Bl.drewN_ ?_ _ | with_reducible refine Bl.alloc_ ?_ _ | with_reducible refine Bl.trans_ ?_ (by assumption) | with_reducible refine Bl.trans_ ?_ (And.left (by assumption))))) v _), Lib.hid (Bl.set_ (BB2.out.trans_ (by repeat' (first | exact Bl.refl _ | with_reducible assumption | with_reducible refine Bl.drew_ ?_ | with_reducible refine Bl.drewN_ ?_ _ | with_reducible refine Bl.alloc_ ?_ _ | with_reducible refine Bl.trans_ ?_ (by assumption) | with_reducible refine Bl.trans_ ?_ (And.left (by assumption))))) (by simp; omega) _), (fun _ => LS3.out), fun h => nomatch h⟩
                    case measure => simp [intOf]; omega
                  · have hnf : nearer E ((u : Int), (v : Int), z) = false := by rw [HNR.out]; simp; omega
                    have NF := Lib.hid (NO.out hnf)
                    have hw : IntKind.i64.wrap (du + z) = du + z := IntWalk.i64_in _ (by omega)
                    clear hnf
                    go_wp2_with fail
                    go_quiet (fail)
                    clear hw
                    go_wp2_with fail
                    go_roundw
                    case rel => exact ⟨j + 1, E, b, by omega, by go_num, rfl, RE2, Lib.hid (RO2.out.bl (by repeat' (first | exact Bl.refl _ | with_reducible assumption | with_reducible refine Bl.drew_ ?_ | with_reducible refine Bl.drewN_ ?_ _ | with_reducible refine Bl.alloc_ ?_ _ | with_reducible refine Bl.trans_ ?_ (by assumption) | with_reducible refine Bl.trans_ ?_ (And.left (by assumption))))), Lib.hid (BB2.out.trans_ (by repeat' (first | exact Bl.refl _ | with_reducible assumption | with_reducible refine Bl.drew_ ?_ | with_reducible refine Bl.drewN_ ?_ _ | with_reducible refine Bl.alloc_ ?_ _ | with_reducible refine Bl.trans_ ?_ (by assumption) | with_reducible refine Bl.trans_ ?_ (And.left (by assumption))))), LESS.out, NF.out⟩
                    case measure => simp [intOf]; omega
            · go_wp2_with fail
              go_roundg (if b = true then sumF potF E + 1 else 0)
              case rel =>
                refine ⟨E, b, rfl, RE2, RO2, BB2, fun h => by rw [h]; simp, fun h => ?_⟩
                obtain ⟨e, hx⟩ := SAME.out h
                refine RE2.out.done (arcsIn_of_ok HO.out) fun a ha => ?_
                obtain ⟨t, ht, rfl⟩ := List.mem_iff_getElem.1 ha
                rw [e]
                exact hx t ht (by have := HN.out; omega)
              case measure =>
                have := PO.out rfl
                cases hb : b with
                | true => have := LESS.out hb; simp; omega
                | false => simp; omega

end Go.Proofs.Ytffjpfanmnkmgaa

set_option linter.unusedSimpArgs false
set_option linter.unusedVariables false
namespace Go.Proofs.Ytffjpfanmnkmgaa
open Go.RowKit

theorem nodeB_ok {N v : Int} {L : List Arc3} (ho : okB N L = true) : nodeB N v = decide (0 ≤ v ∧ v < N) := by
  obtain ⟨h1, h2, -⟩ := okB_elim ho
  unfold nodeB inB
  have : wrap64 (N - 1) = N - 1 := by unfold wrap64; omega
  rw [this, Bool.eq_iff_iff]
  simp only [decide_eq_true_eq]
  omega
theorem distFromL_len (N : Int) (L : List Arc3) (s : Int) : (distFromL N L s).length ≤ 1048576 := by
  unfold distFromL
  split
  · obtain ⟨ho, h0, h1⟩ := has1_of ‹_›
    have := (okB_elim ho).2.1
    rw [distL_len ho h0 h1]
    omega
  · simp

set_option maxHeartbeats 1000000 in
theorem specDistFrom_any (N s : Int) (A : Option Addr) (n c : Nat) (L : List Arc3) (hn : n = L.length) (hc : n ≤ c) (w : World) (hm : n ≤ 1048576) (H1 : ArcsAt w w.heap.size A L) :
    Calls Try.prog 58 #[.agg #[.int .i64 N, .slice A n c], .int .i64 s] w (NumsMade (distFromL N L s) w) := by
  have K1 := Lib.hid H1
  have HN := Lib.hid hn
  clear H1 hn
  cases ho : okB N L with
  | false =>
    have HO := Lib.hid ho
    clear ho
    go_enter Try.func58, Try.ntmps58
    go_wp2_with fail
    refine (specOk_any N A n c L HN.out _ (by omega) (K1.out.bl (by repeat' (first | exact Bl.refl _ | with_reducible assumption | with_reducible refine Bl.drew_ ?_ | with_reducible refine Bl.drewN_ ?_ _ | with_reducible refine Bl.alloc_ ?_ _ | with_reducible refine Bl.trans_ ?_ (by assumption) | with_reducible refine Bl.trans_ ?_ (And.left (by assumption)))))).mono ?_
    rintro e w1 ⟨rfl, hb1⟩
    rw [HO.out]
    go_wp2
    go_ret
    refine ⟨_, rfl, ?_, (by repeat' (first | exact Bl.refl _ | with_reducible assumption | with_reducible refine Bl.drew_ ?_ | with_reducible refine Bl.drewN_ ?_ _ | with_reducible refine Bl.alloc_ ?_ _ | with_reducible refine Bl.trans_ ?_ (by assumption) | with_reducible refine Bl.trans_ ?_ (And.left (by assumption))))⟩
    unfold distFromL has1
    rw [HO.out, Bool.false_and, if_neg (by simp)]
    exact World.ownsRow_made (base := w.heap.size) (e := 2) (size := 1) w1 #[] 0 (by have := hb1.size; simp at this; omega) (by unfold maxLen; omega) rfl
  | true =>
    have HO := Lib.hid ho
    have HNB := Lib.hid (nodeB_ok (v := s) ho)
    clear ho
    by_cases hh : 0 ≤ s ∧ s < N
    · have h1 : decide (0 ≤ s ∧ s < N) = true := by simpa using hh
      have H1 := Lib.hid h1
      obtain ⟨hs0, hs1⟩ := hh
      clear h1
      go_enter Try.func58, Try.ntmps58
      go_wp2_with fail
      refine (specOk_any N A n c L HN.out _ (by omega) (K1.out.bl (by repeat' (first | exact Bl.refl _ | with_reducible assumption | with_reducible refine Bl.drew_ ?_ | with_reducible refine Bl.drewN_ ?_ _ | with_reducible refine Bl.alloc_ ?_ _ | with_reducible refine Bl.trans_ ?_ (by assumption) | with_reducible refine Bl.trans_ ?_ (And.left (by assumption)))))).mono ?_
      rintro e w1 ⟨rfl, hb1⟩
      rw [HO.out]
      obtain ⟨q0, q1⟩ := box2 hb1
      go_wp2_with fail
      refine (l1Node_any N s _ _).mono ?_
      rintro e w2 ⟨rfl, hb2⟩
      rw [HNB.out, H1.out]
      have hb12 := hb1.trans_ hb2
      clear q0 q1
      obtain ⟨q0, q1⟩ := box2 hb12
      have hbw : Bl w w2 := (Bl.alloc_ (Bl.refl w) _).trans_ hb12
      clear hb12
      go_wp2_with fail
      refine (l3Dist_any N s A n c L HN.out HO.out hs0 hs1 _ hm (K1.out.bl hbw)).mono ?_
      rintro e w3 ⟨v, rfl, hv, hb3⟩
      have V := Lib.hid (hv.low (B := w.heap.size) hbw.size)
      clear hv
      go_wp2
      go_ret
      refine ⟨v, rfl, ?_, hbw.trans_ hb3⟩
      unfold distFromL has1
      rw [HO.out, H1.out]
      exact V.out
    · have h1 : decide (0 ≤ s ∧ s < N) = false := by simpa using hh
      have H1 := Lib.hid h1
      clear h1 hh
      go_enter Try.func58, Try.ntmps58
      go_wp2_with fail
      refine (specOk_any N A n c L HN.out _ (by omega) (K1.out.bl (by repeat' (first | exact Bl.refl _ | with_reducible assumption | with_reducible refine Bl.drew_ ?_ | with_reducible refine Bl.drewN_ ?_ _ | with_reducible refine Bl.alloc_ ?_ _ | with_reducible refine Bl.trans_ ?_ (by assumption) | with_reducible refine Bl.trans_ ?_ (And.left (by assumption)))))).mono ?_
      rintro e w1 ⟨rfl, hb1⟩
      rw [HO.out]
      obtain ⟨q0, q1⟩ := box2 hb1
      go_wp2_with fail
      refine (l1Node_any N s _ _).mono ?_
      rintro e w2 ⟨rfl, hb2⟩
      rw [HNB.out, H1.out]
      have hb12 := hb1.trans_ hb2
      have hbw : Bl w w2 := (Bl.alloc_ (Bl.refl w) _).trans_ hb12
      clear hb12
      go_wp2
      go_ret
      refine ⟨_, rfl, ?_, hbw.alloc_ _⟩
      unfold distFromL has1
      rw [H1.out, Bool.and_false, if_neg (by simp)]
      exact World.ownsRow_made (base := w.heap.size) (e := 2) (size := 1) w2 #[] 0 hbw.size (by unfold maxLen; omega) rfl

-- (specDistOf_any left out)

end Go.Proofs.Ytffjpfanmnkmgaa
