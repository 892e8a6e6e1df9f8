/-
  What is proved here: plain facts on heaps: what is left when the first is taken; what a lesser key leaves; nodes that are taken out of a heap, the nearest first, are told as far as they are, each once; what the iterator over the nearest nodes keeps in memory; a region that draws its order, inside a fence that lets all by, is met by the laws for one without a fence. No conditions beyond those that each theorem states.
-/
import Derived.Test.YtlddileiecnkjaaV5G07
import Derived.Test.YtlddileiecnkjaaV5G04
import Derived.Test.YtlddileiecnkjaaV5G02
set_option linter.unusedSimpArgs false
set_option linter.unusedVariables false
namespace Go.Proofs.Ytlddileiecnkjaa

/-- The last one in the place of the first, which is gone. -/
def cutI (L : List It) : List It := (L.set 0 (atI L (L.length - 1))).take (L.length - 1)
theorem cutI_perm (f : It) (t : List It) : (cutI (f :: t)).Perm t := by
  unfold cutI
  rcases List.eq_nil_or_concat t with rfl | ⟨t', z, rfl⟩
  · simp
  · have e : atI (f :: (t' ++ [z])) ((f :: (t' ++ [z])).length - 1) = z := by
      simp [atI]
    simp only [List.concat_eq_append] at *
    rw [e]
    simp only [List.set_cons_zero, List.length_cons, List.length_append, List.length_nil, Nat.zero_add, Nat.add_sub_cancel]
    rw [List.take_succ_cons, List.take_append_of_le_length (Nat.le_refl _), List.take_length]
    exact (List.perm_append_comm (l₁ := [z]) (l₂ := t'))
theorem cutI_at {L : List It} {i : Nat} (h0 : 0 < i) (hi : i < L.length - 1) : atI (cutI L) i = atI L i := by
  unfold cutI
  rw [show atI ((L.set 0 (atI L (L.length - 1))).take (L.length - 1)) i = atI (L.set 0 (atI L (L.length - 1))) i from by
    unfold atI
    simp only [List.getD_eq_getElem?_getD, List.getElem?_take, if_pos hi]]
  rw [atI_set (by omega), if_neg (by omega)]
theorem cutI_len (L : List It) : (cutI L).length = L.length - 1 := by
  unfold cutI
  rw [List.length_take, List.length_set]
  omega


end Go.Proofs.Ytlddileiecnkjaa

set_option linter.unusedSimpArgs false
set_option linter.unusedVariables false
namespace Go.Proofs.Ytlddileiecnkjaa

theorem lessI_total {a f : It} (h : lessI a f = false) (hne : a.2 ≠ f.2) : lessI f a = true := by
  simp only [lessI, decide_eq_false_iff_not, decide_eq_true_eq] at *
  omega
theorem lessI_key {a b : It} (h : lessI a b = false) : b.1 ≤ a.1 := by
  simp only [lessI, decide_eq_false_iff_not] at h
  omega
theorem lessI_key' {a b : It} (h : lessI a b = true) : a.1 ≤ b.1 := by
  simp only [lessI, decide_eq_true_eq] at h
  omega
/-- What is left when the first is taken is in order, and all of it is no less than the first. -/
theorem pop_ord {f : It} {t : List It} (c : Ord (f :: t)) : Ord (downI (cutI (f :: t)) 0) ∧ (downI (cutI (f :: t)) 0).Perm t ∧ ∀ a ∈ t, lessI a f = false := by
  have hp := (downI_perm (cutI (f :: t)) 0).trans (cutI_perm f t)
  refine ⟨?_, hp, fun x hx => ?_⟩
  · refine downI_ord (fun i hi hi0 hne => ?_) (fun i hi hi0 hip hp0 => absurd hp0 (by omega))
    rw [cutI_len] at hi
    rw [cutI_at hi0 hi, cutI_at (by omega) (by omega)]
    exact c i (by omega) hi0
  · obtain ⟨i, hi, rfl⟩ := List.mem_iff_getElem.1 (List.mem_cons_of_mem f hx)
    have := c.least i hi
    rw [atI_eq hi] at this
    simpa [atI] using this
theorem push_ord {H : List It} (x : It) (c : Ord H) : Ord (upI (H ++ [x]) H.length) ∧ (upI (H ++ [x]) H.length).Perm (H ++ [x]) := by
  refine ⟨?_, upI_perm H.length (H ++ [x]) (by simp)⟩
  refine upI_ord _ _ (by simp) (fun i hi hi0 hne => ?_) (fun i hi hi0 hip _ => ?_)
  · have hi' : i < H.length := by simp at hi; omega
    rw [atI_append, atI_append, if_neg hne, if_neg (by omega)]
    exact c i hi' hi0
  · simp at hi
    omega

/-- Is a node told? -/
def toldB (Y : List It) (v : Int) : Bool := Y.any fun y => y.2 == v
theorem toldB_iff {Y : List It} {v : Int} : toldB Y v = true ↔ ∃ y ∈ Y, y.2 = v := by simp [toldB]
theorem toldB_no {Y : List It} {v : Int} : toldB Y v = false ↔ ∀ y ∈ Y, y.2 ≠ v := by simp [toldB]
theorem toldB_snoc (Y : List It) (x : It) (v : Int) : toldB (Y ++ [x]) v = (toldB Y v || x.2 == v) := by simp [toldB]

/-- What holds while nodes are taken out: Y are told, H is the heap, R are the arcs from x that are still to be pushed. -/
structure Near (N : Int) (L : List (Int × Int × Int)) (s : Int) (Y H : List It) (R : List (Int × Int × Int)) (x : It) : Prop where
  ids : (Y.map (·.2)).Nodup
  inY : ∀ y ∈ Y, 0 ≤ y.2 ∧ y.2 < N
  inH : ∀ h ∈ H, 0 ≤ h.2 ∧ h.2 < N
  keyY : ∀ y ∈ Y, 0 ≤ y.1 ∧ y.1 + 1000 ≤ 1000 * (Y.length : Nat)
  keyH : ∀ h ∈ H, 0 ≤ h.1 ∧ h.1 ≤ 1000 * (Y.length : Nat)
  sorted : Y.Pairwise fun a b => lessI a b = true
  le : ∀ y ∈ Y, ∀ h ∈ H, lessI h y = false
  start : (0, s) ∈ H ∨ ∃ z ∈ Y, z.2 = s ∧ z.1 ≤ 0
  fromY : ∀ y ∈ Y, (y.1 = 0 ∧ y.2 = s) ∨ ∃ u ∈ Y, ∃ a ∈ L, a.1 = u.2 ∧ a.2.1 = y.2 ∧ y.1 = u.1 + a.2.2
  fromH : ∀ h ∈ H, (h.1 = 0 ∧ h.2 = s) ∨ ∃ u ∈ Y, ∃ a ∈ L, a.1 = u.2 ∧ a.2.1 = h.2 ∧ h.1 = u.1 + a.2.2
  arc : ∀ y ∈ Y, ∀ a ∈ L, a.1 = y.2 → a ∈ R ∨ (y.1 + a.2.2, a.2.1) ∈ H ∨ ∃ z ∈ Y, z.2 = a.2.1 ∧ z.1 ≤ y.1 + a.2.2
  ord : Ord H
  rest : ∀ a ∈ R, a ∈ L ∧ a.1 = x.2
  last : R ≠ [] → x ∈ Y ∧ ∀ y ∈ Y, y.1 ≤ x.1
  few : H.length + R.length + (L.filter fun a => !(toldB Y a.1)).length ≤ 1 + L.length

theorem Near.start_ {N s : Int} {L : List (Int × Int × Int)} (h0 : 0 ≤ s) (h1 : s < N) (x : It) : Near N L s [] [(0, s)] [] x where
  ids := by simp
  inY := by simp
  inH := by simp; omega
  keyY := by simp
  keyH := by simp
  sorted := by simp
  le := by simp
  start := by simp
  fromY := by simp
  fromH := by simp
  arc := by simp
  ord := fun i hi h0 => by simp at hi; omega
  rest := by simp
  last := by simp
  few := by
    have : (L.filter fun a => !(toldB [] a.1)).length ≤ L.length := List.length_filter_le _ _
    simp only [List.length_cons, List.length_nil]
    omega
/-- No heap is longer than this. -/
theorem Near.small {N s : Int} {L : List (Int × Int × Int)} {Y H : List It} {R : List (Int × Int × Int)} {x : It} (h : Near N L s Y H R x) : H.length + R.length ≤ 1 + L.length := by
  have := h.few
  omega
theorem nodup_len : ∀ (m : Nat) (l : List Nat), l.Nodup → (∀ n ∈ l, n < m) → l.length ≤ m
  | 0, l, _, h => by
    rcases l with _ | ⟨a, l⟩
    · simp
    · exact absurd (h a (by simp)) (by omega)
  | m + 1, l, hn, h => by
    have h1 := nodup_len m (l.erase m) (hn.erase m) fun n hm => by
      obtain ⟨h2, h3⟩ := (hn.mem_erase_iff).1 hm
      have := h n h3
      omega
    have := List.length_erase (a := m) (l := l)
    split at this <;> omega
theorem Near.told_le {N s : Int} {L : List (Int × Int × Int)} {Y H : List It} {R : List (Int × Int × Int)} {x : It} (hN : N ≤ 24) (h : Near N L s Y H R x) : Y.length ≤ 24 := by
  have h1 : ((Y.map (·.2)).map Int.toNat).Nodup := by
    rw [List.Nodup, List.pairwise_map]
    refine List.Pairwise.imp_of_mem (fun {a b} ha hb hab => ?_) h.ids
    obtain ⟨y, hy, rfl⟩ := List.mem_map.1 ha
    obtain ⟨z, hz, rfl⟩ := List.mem_map.1 hb
    have := h.inY y hy
    have := h.inY z hz
    omega
  have h2 := nodup_len 24 _ h1 fun n hn => by
    simp only [List.mem_map] at hn
    obtain ⟨v, ⟨y, hy, rfl⟩, rfl⟩ := hn
    have := h.inY y hy
    omega
  simpa using h2

/-- The first one of the heap is told: it goes. -/
theorem Near.skip {N s : Int} {L : List (Int × Int × Int)} {Y t : List It} {f x : It} (hL : ArcsIn N L) (h : Near N L s Y (f :: t) [] x) (ht : toldB Y f.2 = true) (x' : It) :
    Near N L s Y (downI (cutI (f :: t)) 0) [] x' := by
  obtain ⟨ho, hp, hl⟩ := pop_ord h.ord
  obtain ⟨z, hz, hzf⟩ := toldB_iff.1 ht
  have hzk := lessI_key (h.le z hz f (by simp))
  have hm : ∀ a, a ∈ downI (cutI (f :: t)) 0 → a ∈ f :: t := fun a ha => by simp [hp.mem_iff.1 ha]
  refine ⟨h.ids, h.inY, fun a ha => h.inH a (hm a ha), h.keyY, fun a ha => h.keyH a (hm a ha), h.sorted, fun y hy a ha => h.le y hy a (hm a ha), ?_, h.fromY, fun a ha => h.fromH a (hm a ha), fun y hy a ha hay => ?_, ho, by simp, by simp, ?_⟩
  · rcases h.start with h' | h'
    · rcases List.mem_cons.1 h' with h2 | h2
      · refine .inr ⟨z, hz, by rw [hzf, ← h2], ?_⟩
        rw [← h2] at hzk
        exact hzk
      · exact .inl (hp.mem_iff.2 h2)
    · exact .inr h'
  · rcases h.arc y hy a ha hay with h' | h' | h'
    · simp at h'
    · rcases List.mem_cons.1 h' with h2 | h2
      · refine .inr (.inr ⟨z, hz, by rw [hzf, ← h2], ?_⟩)
        rw [← h2] at hzk
        exact hzk
      · exact .inr (.inl (hp.mem_iff.2 h2))
    · exact .inr (.inr h')
  · have := h.few
    rw [hp.length_eq]
    simp at this ⊢
    omega

theorem filter_told (L : List (Int × Int × Int)) (Y : List It) (f : It) (ht : toldB Y f.2 = false) :
    (L.filter fun a => a.1 == f.2).length + (L.filter fun a => !(toldB (Y ++ [f]) a.1)).length = (L.filter fun a => !(toldB Y a.1)).length := by
  induction L with
  | nil => rfl
  | cons a l ih =>
    simp only [List.filter_cons]
    by_cases e : a.1 = f.2
    · have h1 : (a.1 == f.2) = true := by simpa using e
      have h2 : toldB (Y ++ [f]) a.1 = true := by rw [toldB_snoc, e]; simp
      have h3 : toldB Y a.1 = false := by rw [e]; exact ht
      rw [h1, h2, h3]
      simp
      omega
    · have h1 : (a.1 == f.2) = false := by simpa using e
      have h2 : toldB (Y ++ [f]) a.1 = toldB Y a.1 := by
        rw [toldB_snoc]
        have : (f.2 == a.1) = false := by simpa using fun e' => e e'.symm
        rw [this, Bool.or_false]
      rw [h1, h2]
      cases toldB Y a.1 <;> simp <;> omega

/-- The first one of the heap is not told yet: it is told, and its arcs are to be pushed. -/
theorem Near.tell {N s : Int} {L : List (Int × Int × Int)} {Y t : List It} {f x : It} (hL : ArcsIn N L) (h : Near N L s Y (f :: t) [] x) (ht : toldB Y f.2 = false) :
    Near N L s (Y ++ [f]) (downI (cutI (f :: t)) 0) (L.filter fun a => a.1 == f.2) f := by
  obtain ⟨ho, hp, hl⟩ := pop_ord h.ord
  have hno := toldB_no.1 ht
  have hm : ∀ a, a ∈ downI (cutI (f :: t)) 0 → a ∈ f :: t := fun a ha => by simp [hp.mem_iff.1 ha]
  have hfk := h.keyH f (by simp)
  have hfi := h.inH f (by simp)
  have hlf : ∀ y ∈ Y, lessI y f = true := fun y hy => lessI_total (h.le y hy f (by simp)) (fun e => hno y hy e.symm)
  have hmem : ∀ y, y ∈ Y ++ [f] ↔ y ∈ Y ∨ y = f := by simp
  have hlen : (Y ++ [f]).length = Y.length + 1 := by simp
  have hYle : ∀ y ∈ Y ++ [f], y.1 ≤ f.1 := fun y hy => by
    rcases (hmem y).1 hy with hy | rfl
    · exact lessI_key' (hlf y hy)
    · exact Int.le_refl _
  refine ⟨?_, fun y hy => ?_, fun a ha => h.inH a (hm a ha), fun y hy => ?_, fun a ha => ?_, ?_, fun y hy a ha => ?_, ?_, fun y hy => ?_, fun a ha => ?_, fun y hy a ha hay => ?_, ho, fun a ha => ?_, fun _ => ⟨by simp, hYle⟩, ?_⟩
  · rw [List.map_append, List.nodup_append]
    refine ⟨h.ids, by simp, fun u hu v hv => ?_⟩
    simp at hv
    obtain ⟨y, hy, rfl⟩ := List.mem_map.1 hu
    rw [hv]
    exact hno y hy
  · rcases (hmem y).1 hy with hy | rfl
    · exact h.inY y hy
    · exact hfi
  · rw [hlen]
    rcases (hmem y).1 hy with hy | rfl
    · have := h.keyY y hy
      omega
    · omega
  · rw [hlen]
    have := h.keyH a (hm a ha)
    omega
  · rw [List.pairwise_append]
    exact ⟨h.sorted, by simp, fun a ha b hb => by simp at hb; rw [hb]; exact hlf a ha⟩
  · rcases (hmem y).1 hy with hy | rfl
    · exact h.le y hy a (hm a ha)
    · exact hl a (hp.mem_iff.1 ha)
  · rcases h.start with h' | ⟨z, hz, e⟩
    · rcases List.mem_cons.1 h' with h2 | h2
      · exact .inr ⟨f, by simp, by rw [← h2], by rw [← h2]; exact Int.le_refl _⟩
      · exact .inl (hp.mem_iff.2 h2)
    · exact .inr ⟨z, by simp [hz], e⟩
  · have key : (y.1 = 0 ∧ y.2 = s) ∨ ∃ u ∈ Y, ∃ a ∈ L, a.1 = u.2 ∧ a.2.1 = y.2 ∧ y.1 = u.1 + a.2.2 := by
      rcases (hmem y).1 hy with hy | rfl
      · exact h.fromY y hy
      · exact h.fromH y (by simp)
    rcases key with k | ⟨u, hu, r⟩
    · exact .inl k
    · exact .inr ⟨u, by simp [hu], r⟩
  · rcases h.fromH a (hm a ha) with k | ⟨u, hu, r⟩
    · exact .inl k
    · exact .inr ⟨u, by simp [hu], r⟩
  · rcases (hmem y).1 hy with hy | rfl
    · rcases h.arc y hy a ha hay with h' | h' | ⟨z, hz, e⟩
      · simp at h'
      · rcases List.mem_cons.1 h' with h2 | h2
        · exact .inr (.inr ⟨f, by simp, by rw [← h2], by rw [← h2]; exact Int.le_refl _⟩)
        · exact .inr (.inl (hp.mem_iff.2 h2))
      · exact .inr (.inr ⟨z, by simp [hz], e⟩)
    · exact .inl (List.mem_filter.2 ⟨ha, by simpa using hay⟩)
  · obtain ⟨h1, h2⟩ := List.mem_filter.1 ha
    exact ⟨h1, by simpa using h2⟩
  · have h1 := h.few
    have h2 := filter_told L Y f ht
    rw [hp.length_eq]
    simp at h1 h2 ⊢
    omega

/-- An arc is pushed. -/
theorem Near.push {N s : Int} {L : List (Int × Int × Int)} {Y H : List It} {a : Int × Int × Int} {R : List (Int × Int × Int)} {x : It} (hL : ArcsIn N L) (h : Near N L s Y H (a :: R) x) :
    Near N L s Y (upI (H ++ [(x.1 + a.2.2, a.2.1)]) H.length) R x := by
  obtain ⟨ho, hp⟩ := push_ord (x.1 + a.2.2, a.2.1) h.ord
  obtain ⟨hx, hle⟩ := h.last (by simp)
  obtain ⟨haL, hax⟩ := h.rest a (by simp)
  obtain ⟨a0, a1, a2, a3, a4, a5⟩ := hL a haL
  have hm : ∀ b, b ∈ upI (H ++ [(x.1 + a.2.2, a.2.1)]) H.length ↔ b ∈ H ∨ b = (x.1 + a.2.2, a.2.1) := fun b => by rw [hp.mem_iff]; simp
  have hxk := h.keyY x hx
  refine ⟨h.ids, h.inY, fun b hb => ?_, h.keyY, fun b hb => ?_, h.sorted, fun y hy b hb => ?_, ?_, h.fromY, fun b hb => ?_, fun y hy b hbL hby => ?_, ho, fun b hb => h.rest b (by simp [hb]), fun _ => ⟨hx, hle⟩, ?_⟩
  · rcases (hm b).1 hb with hb | rfl
    · exact h.inH b hb
    · exact ⟨a2, a3⟩
  · rcases (hm b).1 hb with hb | rfl
    · exact h.keyH b hb
    · constructor
      · show 0 ≤ x.1 + a.2.2
        omega
      · show x.1 + a.2.2 ≤ _
        omega
  · rcases (hm b).1 hb with hb | rfl
    · exact h.le y hy b hb
    · have := hle y hy
      simp only [lessI, decide_eq_false_iff_not]
      omega
  · rcases h.start with h' | h'
    · exact .inl ((hm _).2 (.inl h'))
    · exact .inr h'
  · rcases (hm b).1 hb with hb | rfl
    · exact h.fromH b hb
    · exact .inr ⟨x, hx, a, haL, hax, rfl, rfl⟩
  · rcases h.arc y hy b hbL hby with h' | h' | h'
    · rcases List.mem_cons.1 h' with rfl | h2
      · refine .inr (.inl ((hm _).2 (.inr ?_)))
        have : y = x := by
          obtain ⟨i, hi, rfl⟩ := List.mem_iff_getElem.1 hy
          obtain ⟨j, hj, rfl⟩ := List.mem_iff_getElem.1 hx
          have e : (Y.map (·.2))[i]'(by simpa using hi) = (Y.map (·.2))[j]'(by simpa using hj) := by
            simp only [List.getElem_map]
            rw [← hby, ← hax]
          have := (List.getElem_inj h.ids).1 e
          subst this
          rfl
        rw [this]
      · exact .inl h2
    · exact .inr (.inl ((hm _).2 (.inl h')))
    · exact .inr (.inr h')
  · have h1 := h.few
    rw [upI_len]
    simp at h1 ⊢
    omega

theorem Near.any {N s : Int} {L : List (Int × Int × Int)} {Y H : List It} {x : It} (h : Near N L s Y H [] x) (x' : It) : Near N L s Y H [] x' :=
  ⟨h.ids, h.inY, h.inH, h.keyY, h.keyH, h.sorted, h.le, h.start, h.fromY, h.fromH, h.arc, h.ord, by simp, by simp, h.few⟩
/-- A bound of the rounds that are to come. -/
def potN (L : List (Int × Int × Int)) (Y H : List It) : Nat := 2 * H.length + 3 * (L.filter fun a => !(toldB Y a.1)).length
theorem potN_tell (L : List (Int × Int × Int)) (Y H H' : List It) (f : It) (ht : toldB Y f.2 = false) (n : Nat) (hn : (L.filter fun a => a.1 == f.2).length = n) : potN L (Y ++ [f]) H' + 3 * n + 2 * H.length = potN L Y H + 2 * H'.length := by
  have h := filter_told L Y f ht
  unfold potN
  omega
/-- Y are all the nodes that are reached, the nearest first. -/
structure AllNear (N : Int) (L : List (Int × Int × Int)) (s : Int) (Y : List It) : Prop where
  ids : (Y.map (·.2)).Nodup
  inY : ∀ y ∈ Y, 0 ≤ y.2 ∧ y.2 < N
  keyY : ∀ y ∈ Y, 0 ≤ y.1
  sorted : Y.Pairwise fun a b => lessI a b = true
  start : ∃ z ∈ Y, z.2 = s ∧ z.1 ≤ 0
  fromY : ∀ y ∈ Y, (y.1 = 0 ∧ y.2 = s) ∨ ∃ u ∈ Y, ∃ a ∈ L, a.1 = u.2 ∧ a.2.1 = y.2 ∧ y.1 = u.1 + a.2.2
  arc : ∀ y ∈ Y, ∀ a ∈ L, a.1 = y.2 → ∃ z ∈ Y, z.2 = a.2.1 ∧ z.1 ≤ y.1 + a.2.2
theorem Near.all {N s : Int} {L : List (Int × Int × Int)} {Y : List It} {x : It} (h : Near N L s Y [] [] x) : AllNear N L s Y :=
  ⟨h.ids, h.inY, fun y hy => (h.keyY y hy).1, h.sorted, h.start.elim (fun h' => absurd h' (by simp)) id, h.fromY, fun y hy a ha hay => by
    rcases h.arc y hy a ha hay with h' | h' | h'
    · simp at h'
    · simp at h'
    · exact h'⟩
/-- All others come behind those that are told so far. -/
theorem Near.complete {N s : Int} {L : List (Int × Int × Int)} (hL : ArcsIn N L) : ∀ (n : Nat) (Y H : List It) (R : List (Int × Int × Int)) (x : It), Near N L s Y H R x →
    2 * H.length + 3 * R.length + 3 * (L.filter fun a => !(toldB Y a.1)).length = n → ∃ Z, AllNear N L s (Y ++ Z) := by
  intro n
  induction n using Nat.strongRecOn with
  | ind n ih =>
    intro Y H R x h hn
    rcases R with _ | ⟨a, R⟩
    · rcases H with _ | ⟨f, t⟩
      · exact ⟨[], by simpa using h.all⟩
      · have hl : (downI (cutI (f :: t)) 0).length = t.length := by rw [downI_len, cutI_len]; simp
        by_cases ht : toldB Y f.2 = true
        · refine ih _ ?_ _ _ _ _ (h.skip hL ht x) rfl
          rw [hl]
          simp at hn ⊢
          omega
        · have ht' : toldB Y f.2 = false := by simpa using ht
          have hf := filter_told L Y f ht'
          obtain ⟨Z, hZ⟩ := ih _ (by rw [hl]; simp at hn ⊢; omega) _ _ _ _ (h.tell hL ht') rfl
          exact ⟨f :: Z, by simpa using hZ⟩
    · refine ih _ ?_ _ _ _ _ (h.push hL) rfl
      rw [upI_len]
      simp at hn ⊢
      omega

/-- The key of a node among those that are told; -1: it isn't. -/
def keyOf (Y : List It) (v : Int) : Int := match Y.find? fun y => y.2 == v with | some y => y.1 | none => -1
theorem keyOf_yes {Y : List It} (hi : (Y.map (·.2)).Nodup) {y : It} (hy : y ∈ Y) : keyOf Y y.2 = y.1 := by
  unfold keyOf
  cases hf : Y.find? (fun z => z.2 == y.2) with
  | none =>
    have := List.find?_eq_none.1 hf y hy
    simp at this
  | some z =>
    have h1 := List.mem_of_find?_eq_some hf
    have h2 := List.find?_some hf
    have h3 : z.2 = y.2 := by simpa using h2
    obtain ⟨i, hi', rfl⟩ := List.mem_iff_getElem.1 hy
    obtain ⟨j, hj, rfl⟩ := List.mem_iff_getElem.1 h1
    have e : (Y.map (·.2))[j]'(by simpa using hj) = (Y.map (·.2))[i]'(by simpa using hi') := by
      simp only [List.getElem_map]
      exact h3
    have := (List.getElem_inj hi).1 e
    subst this
    rfl
theorem keyOf_snoc {Y : List It} {x : It} (hx : toldB Y x.2 = false) (v : Int) : keyOf (Y ++ [x]) v = if v = x.2 then x.1 else keyOf Y v := by
  unfold keyOf
  rw [List.find?_append]
  by_cases e : v = x.2
  · subst e
    rw [if_pos rfl, List.find?_eq_none.2 fun y hy => by simpa using toldB_no.1 hx y hy]
    simp
  · rw [if_neg e]
    have : ([x].find? fun y => y.2 == v) = none := by
      rw [List.find?_eq_none]
      intro y hy
      simp at hy
      subst hy
      simpa using fun e' => e e'.symm
    rw [this, Option.or_none]
theorem keyOf_told {Y : List It} {v : Int} (h : 0 ≤ keyOf Y v) : ∃ y ∈ Y, y.2 = v ∧ keyOf Y v = y.1 := by
  unfold keyOf at h ⊢
  cases hf : Y.find? (fun z => z.2 == v) with
  | none => rw [hf] at h; simp at h
  | some z =>
    have h2 := List.find?_some hf
    exact ⟨z, List.mem_of_find?_eq_some hf, by simpa using h2, rfl⟩
/-- The keys of the first n nodes. -/
def keysL (n : Nat) (Y : List It) : List Int := (List.range n).map fun (i : Nat) => keyOf Y (i : Int)
theorem keysL_len (n : Nat) (Y : List It) : (keysL n Y).length = n := by simp [keysL]
theorem keysL_at {n : Nat} {Y : List It} {v : Int} (h0 : 0 ≤ v) (h1 : v < n) : dAt (keysL n Y) v = keyOf Y v := by
  unfold dAt keysL
  rw [List.getD_eq_getElem?_getD, List.getElem?_map, List.getElem?_range (by omega)]
  simp only [Option.map_some, Option.getD_some]
  rw [show ((v.toNat : Nat) : Int) = v from by omega]
theorem keysL_snoc {n : Nat} {Y : List It} {x : It} (hx : toldB Y x.2 = false) (h0 : 0 ≤ x.2) : keysL n (Y ++ [x]) = (keysL n Y).set x.2.toNat x.1 := by
  refine List.ext_getElem (by simp [keysL_len]) fun i h1 h2 => ?_
  rw [List.getElem_set]
  simp only [keysL, List.getElem_map, List.getElem_range]
  rw [keyOf_snoc hx]
  by_cases e : (i : Int) = x.2
  · rw [if_pos e, if_pos (by omega)]
  · rw [if_neg e, if_neg (by omega)]
theorem keysL_take {n m : Nat} {Y : List It} (h : n ≤ m) : (keysL m Y).take n = keysL n Y := by
  refine List.ext_getElem (by simp [keysL_len]; omega) fun i h1 h2 => ?_
  simp [keysL]

/-- The keys of the nodes that are told tell how far all nodes are. -/
theorem AllNear.dist {N s : Int} {L : List (Int × Int × Int)} {Y : List It} (hL : ArcsIn N L) (h : AllNear N L s Y) : IsDist N L s (keysL N.toNat Y) := by
  have hat : ∀ v, 0 ≤ v → v < N → dAt (keysL N.toNat Y) v = keyOf Y v := fun v h0 h1 => keysL_at h0 (by omega)
  have hlow : ∀ v, -1 ≤ keyOf Y v := fun v => by
    unfold keyOf
    split
    · have := h.keyY _ (List.mem_of_find?_eq_some (by assumption))
      omega
    · omega
  obtain ⟨z, hz, hzs, hz0⟩ := h.start
  have hzi := h.inY z hz
  have hzk := h.keyY z hz
  refine ⟨keysL_len _ _, fun v => ?_, ?_, fun a ha hu => ?_, fun v h0 h1 hp => ?_⟩
  · by_cases hv : 0 ≤ v
    · by_cases hvN : v < N
      · rw [hat v hv hvN]; exact hlow v
      · rw [dAt_out (by rw [keysL_len]; omega)]; omega
    · rw [dAt_neg (by omega), hat 0 (by omega) (by omega)]; exact hlow 0
  · rw [← hzs, hat z.2 hzi.1 hzi.2, keyOf_yes h.ids hz]
    omega
  · obtain ⟨a0, a1, a2, a3, a4, a5⟩ := hL a ha
    rw [hat a.1 a0 a1] at hu ⊢
    rw [hat a.2.1 a2 a3]
    obtain ⟨y, hy, hya, hyk⟩ := keyOf_told hu
    obtain ⟨u, hu', e1, e2⟩ := h.arc y hy a ha hya.symm
    rw [← e1, keyOf_yes h.ids hu']
    have := h.keyY u hu'
    omega
  · rw [hat v h0 h1] at hp ⊢
    obtain ⟨y, hy, hya, hyk⟩ := keyOf_told hp
    rcases h.fromY y hy with ⟨e1, e2⟩ | ⟨u, hu, a, ha, e1, e2, e3⟩
    · exact .inl (by rw [← hya, e2])
    · refine .inr ⟨a, ha, by rw [e2, hya], ?_, ?_⟩
      · have hi := h.inY u hu
        rw [e1, hat u.2 hi.1 hi.2, keyOf_yes h.ids hu]
        exact h.keyY u hu
      · have hi := h.inY u hu
        rw [e1, hat u.2 hi.1 hi.2, keyOf_yes h.ids hu, hyk, e3]
theorem AllNear.keys {N s : Int} {L : List (Int × Int × Int)} {Y : List It} (hL : ArcsIn N L) (hN : N ≤ 24) (h : AllNear N L s Y) : keysL N.toNat Y = distL N L s := by
  obtain ⟨z, hz, hzs, hz0⟩ := h.start
  have := h.inY z hz
  exact distL_of hL hN (by omega) (by omega) (h.dist hL)
/-- Just the nodes that are reached are told. -/
theorem AllNear.mem {N s : Int} {L : List (Int × Int × Int)} {Y : List It} (hL : ArcsIn N L) (hN : N ≤ 24) (h : AllNear N L s Y) (k v : Int) :
    (k, v) ∈ Y ↔ (0 ≤ v ∧ v < N) ∧ 0 ≤ k ∧ k = dAt (distL N L s) v := by
  rw [← h.keys hL hN]
  constructor
  · intro hy
    have hi := h.inY _ hy
    refine ⟨hi, h.keyY _ hy, ?_⟩
    rw [keysL_at hi.1 (by have := hi.2; show v < _; simp at this; omega)]
    exact (keyOf_yes h.ids hy).symm
  · rintro ⟨⟨h0, h1⟩, hk, e⟩
    rw [keysL_at h0 (by omega)] at e
    obtain ⟨y, hy, hyv, hyk⟩ := keyOf_told (Y := Y) (v := v) (by omega)
    have : y = (k, v) := by
      rw [e, hyk, ← hyv]
    rw [← this]
    exact hy

/-- What is known of the next one. -/
theorem NextFacts {N s : Int} {L : List (Int × Int × Int)} {pre Z : List It} {x : It} (hL : ArcsIn N L) (hN : N ≤ 24) (h : AllNear N L s (pre ++ x :: Z)) :
    (0 ≤ x.2 ∧ x.2 < N) ∧ (0 ≤ x.1 ∧ x.1 ≤ 23000) ∧ toldB pre x.2 = false ∧ (∀ y ∈ pre, lessI y x = true) ∧ x.1 = dAt (distL N L s) x.2 := by
  have hx : x ∈ pre ++ x :: Z := by simp
  obtain ⟨z, hz, hzs, hz0⟩ := h.start
  have hzi := h.inY z hz
  have hm := (h.mem hL hN x.1 x.2).1 hx
  refine ⟨h.inY x hx, ⟨h.keyY x hx, ?_⟩, ?_, ?_, hm.2.2⟩
  · rw [hm.2.2]
    exact (distL_is hL hN (by omega) (by omega) : IsDist N L s _).top hL hN (by omega) (by omega) x.2
  · rw [toldB_no]
    intro y hy e
    have := h.ids
    rw [List.map_append, List.nodup_append] at this
    exact this.2.2 y.2 (List.mem_map.2 ⟨y, hy, rfl⟩) x.2 (by simp) e
  · intro y hy
    exact (List.pairwise_append.1 h.sorted).2.2 y hy x (by simp)

end Go.Proofs.Ytlddileiecnkjaa

set_option linter.unusedSimpArgs false
set_option linter.unusedVariables false
namespace Go.Proofs.Ytlddileiecnkjaa
open Go.RowKit

theorem ArcsAt.turn {w w' : World} {B : Nat} {A : Option Addr} {L : List Arc3} {S : Nat → Prop} (h : ArcsAt w B A L) (hB : B ≤ w.heap.size) (k : Turn S w w') (hS : 0 < L.length → ∀ g, blockOf A = some g → ¬ S g) : ArcsAt w' B A L := fun h0 => by
  obtain ⟨g, off, rfl, hg, hc⟩ := h h0
  have hb := fun o => (k.cells (show g < w.heap.size by omega) (hS h0 g rfl) o).1
  exact ⟨g, off, rfl, hg, fun j hj => by rw [hb, hb, hb]; exact hc j hj⟩
theorem HBox.turn {w w' : World} {hb : Nat} {v : Value} {S : Nat → Prop} (h : HBox w hb v) (k : Turn S w w') (hS : ¬ S hb) : HBox w' hb v := by
  have hl := h.lt
  obtain ⟨h0, h1, h2⟩ := h
  exact ⟨(k.cells hl hS 0).1.trans h0, (k.cells hl hS 1).1.trans h1, (k.cells hl hS 0).2.trans h2⟩
theorem RowI.turn {w w' : World} {g n c : Nat} {L : List It} {S : Nat → Prop} (h : RowI w g n c L) (k : Turn S w w') (hS : ¬ S g) : RowI w' g n c L :=
  ⟨Owns.turn h.1 k (fun g' e => by have e' : g = g' := by simpa [Value.ownBlock] using e
                                   rw [← e']; exact hS), h.2⟩

/-- Which nodes are told, in an array of 24. -/
structure ToldAt (w : World) (tb : Nat) (Y : List It) : Prop where
  lt : tb < w.heap.size
  cell : ∀ i : Nat, i < 24 → w.cell? ⟨tb, i, none⟩ = some (.bool (toldB Y (i : Int)))
  free : ∀ i : Nat, i < 24 → w.frozen? ⟨tb, i, none⟩ = false
theorem ToldAt.turn {w w' : World} {tb : Nat} {Y : List It} (h : ToldAt w tb Y) {S : Nat → Prop} (k : Turn S w w') (hS : ¬ S tb) : ToldAt w' tb Y :=
  ⟨Nat.lt_of_lt_of_le h.lt k.size, fun i hi => (k.cells h.lt hS i).1.trans (h.cell i hi), fun i hi => (k.cells h.lt hS i).2.trans (h.free i hi)⟩
theorem ToldAt.set {w : World} {tb : Nat} {Y : List It} (h : ToldAt w tb Y) {k : Int} {u : Nat} (hu : u < 24) : ToldAt (w.setCell ⟨tb, u, none⟩ (.bool true)) tb (Y ++ [(k, (u : Int))]) := by
  refine ⟨by simpa using h.lt, fun i hi => ?_, fun i hi => by rw [World.frozen?_setCell]; exact h.free i hi⟩
  rw [toldB_snoc]
  by_cases e : i = u
  · subst e
    rw [World.cell?_setCell_same' _ _ _ (by rw [h.cell i hi]; rfl)]
    simp
  · rw [World.cell?_setCell_other _ _ _ _ (by intro e'; injection e' with _ e2; exact e e2.symm), h.cell i hi]
    have : (((u : Int)) == (i : Int)) = false := by simp; omega
    simp [this]

/-- The state of the iterator: it began in world W; K: the blocks of its caller. -/
structure NSt (W : World) (K0 : Nat → Prop) (tb hb : Nat) (Y H : List It) (K : Nat → Prop) (g c : Nat) (wr : World) : Prop where
  told : ToldAt wr tb Y
  row : RowI wr g H.length c H
  box : HBox wr hb (.slice (some ⟨g, 0, none⟩) H.length c)
  ne : hb ≠ g ∧ tb ≠ hb ∧ tb ≠ g
  lo : W.heap.size ≤ tb ∧ W.heap.size ≤ hb ∧ W.heap.size ≤ g
  own : ¬ K tb ∧ ¬ K hb ∧ ¬ K g
  step : Step K0 K W wr
section
variable {W : World} {K0 : Nat → Prop} {tb hb : Nat} {Y H : List It} {K K' : Nat → Prop} {g c : Nat} {wr w' : World}
theorem Step.turn (h : Step K0 K W wr) {S : Nat → Prop} (t : Turn S wr w') (hS : ∀ i, S i → W.heap.size ≤ i) : Step K0 K W w' :=
  ⟨h.1.trans t (fun i hi h' => absurd (hS i h') (by omega)), h.2⟩
theorem NSt.bl (h : NSt W K0 tb hb Y H K g c wr) (b : Bl wr w') : NSt W K0 tb hb Y H K g c w' :=
  ⟨h.told.turn (Turn.of_bl (S := fun _ => False) b) id, h.row.bl b, h.box.bl h.box.lt b, h.ne, h.lo, h.own, h.step.turn (Turn.of_bl (S := fun _ => False) b) (fun _ h => h.elim)⟩
/-- What a round of the caller's leaves. -/
theorem NSt.round (h : NSt W K0 tb hb Y H K g c wr) (s : Step K K' wr w') : NSt W K0 tb hb Y H K' g c w' := by
  obtain ⟨o1, o2, o3⟩ := h.own
  have hg := h.row.cells.2.1
  exact ⟨h.told.turn s.1 o1, h.row.turn s.1 o3, h.box.turn s.1 o2, h.ne, h.lo, ⟨s.out h.told.lt o1, s.out h.box.lt o2, s.out hg o3⟩, h.step.trans s⟩
theorem NSt.pop (h : NSt W K0 tb hb Y H K g c wr) {M : List It} (hR : RowI w' g M.length c M) (hH : HBox w' hb (.slice (some ⟨g, 0, none⟩) M.length c)) (t : Turn (fun k => k = hb ∨ k = g) wr w') : NSt W K0 tb hb Y M K g c w' := by
  obtain ⟨n1, n2, n3⟩ := h.ne
  obtain ⟨l1, l2, l3⟩ := h.lo
  exact ⟨h.told.turn t (fun h => h.elim n2 n3), hR, hH, h.ne, h.lo, h.own, h.step.turn t (fun i hi => by rcases hi with rfl | rfl <;> assumption)⟩
theorem NSt.push (h : NSt W K0 tb hb Y H K g c wr) (hk : ∀ i, K i → i < wr.heap.size) {M : List It} {g' c' : Nat} (hM : 0 < M.length) (hI : HeapIn w' W.heap.size hb (.slice (some ⟨g', 0, none⟩) M.length c') M)
    (t : Turn (fun k => k = hb ∨ some k = some g) wr w') (hg' : some g = some g' ∨ wr.heap.size ≤ g') : NSt W K0 tb hb Y M K g' c' w' := by
  obtain ⟨n1, n2, n3⟩ := h.ne
  obtain ⟨l1, l2, l3⟩ := h.lo
  obtain ⟨o1, o2, o3⟩ := h.own
  have ht := h.told.lt
  obtain ⟨q1, q2, q3, q4⟩ := hI
  obtain ⟨A', c1, e, -, -, -, -⟩ := Owns.shape q2
  have hR : RowI w' g' M.length c' M := ⟨Owns.self_ q2, rfl⟩
  have hlo : W.heap.size ≤ g' := (Owns.lt_ q2 g' rfl).1
  have hne : hb ≠ g' := fun e => q4 (by rw [e]; rfl)
  have hg2 : tb ≠ g' := by
    rcases hg' with e | e
    · injection e with e; rw [← e]; exact n3
    · omega
  have ho : ¬ K g' := by
    rcases hg' with e | e
    · injection e with e; rw [← e]; exact o3
    · exact fun h' => absurd (hk g' h') (by omega)
  refine ⟨h.told.turn t (fun h => h.elim n2 (fun e => n3 (by injection e))), hR, q1, ⟨hne, n2, hg2⟩, ⟨l1, l2, hlo⟩, ⟨o1, o2, ho⟩, h.step.turn t (fun i hi => ?_)⟩
  rcases hi with rfl | e
  · exact l2
  · injection e with e; rw [e]; exact l3
theorem NSt.tell (h : NSt W K0 tb hb Y H K g c wr) {k : Int} {u : Nat} (hu : u < 24) : NSt W K0 tb hb (Y ++ [(k, (u : Int))]) H K g c (wr.setCell ⟨tb, u, none⟩ (.bool true)) := by
  obtain ⟨n1, n2, n3⟩ := h.ne
  obtain ⟨l1, l2, l3⟩ := h.lo
  have t : Turn (fun k => k = tb) wr (wr.setCell ⟨tb, u, none⟩ (.bool true)) := Turn.set (p := ⟨tb, u, none⟩) (Turn.refl (fun k => k = tb) wr) (.inl rfl) _
  exact ⟨h.told.set hu, h.row.turn t (fun e => n3 e.symm), h.box.turn t (fun e => n2 e.symm), h.ne, h.lo, h.own, h.step.turn t (fun i hi => by rw [hi]; exact l1)⟩
/-- A change to the iterator's own blocks is none to those of its caller. -/
theorem NSt.other (h : NSt W K0 tb hb Y H K g c wr) {S : Nat → Prop} {a b : World} (t : Turn S a b) (hS : ∀ i, S i → i = tb ∨ i = hb ∨ i = g) : Turn (fun i => ¬ K i) a b := by
  obtain ⟨o1, o2, o3⟩ := h.own
  refine t.more fun i _ hi => ?_
  rcases hS i hi with rfl | rfl | rfl <;> assumption
theorem NSt.heapIn (h : NSt W K0 tb hb Y H K g c wr) : HeapIn wr W.heap.size hb (.slice (some ⟨g, 0, none⟩) H.length c) H := by
  obtain ⟨n1, n2, n3⟩ := h.ne
  obtain ⟨l1, l2, l3⟩ := h.lo
  exact ⟨h.box, Owns.at_base h.row.1 l3, l2, fun e => n1 (by have e' : g = hb := by simpa [Value.ownBlock] using e
                                                             exact e'.symm)⟩
end

/-- What the iterator reads: the node and the graph, in boxes. -/
structure NIn (w : World) (lb sb gb : Nat) (N s : Int) (A : Option Addr) (n c : Nat) (L : List Arc3) : Prop where
  left : w.cell? ⟨lb, 0, none⟩ = some (.func (.func 127) #[] #[])
  start : w.cell? ⟨sb, 0, none⟩ = some (.int .i64 s)
  size : w.cell? ⟨gb, 0, none⟩ = some (.int .i64 N)
  list : w.cell? ⟨gb, 1, none⟩ = some (.slice A n c)
  arcs : ArcsAt w w.heap.size A L
/-- The blocks that it reads. -/
def inBlocks (lb sb gb : Nat) (A : Option Addr) (L : List Arc3) (i : Nat) : Prop := i = lb ∨ i = sb ∨ i = gb ∨ (0 < L.length ∧ blockOf A = some i)
theorem NIn.turn {w w' : World} {lb sb gb : Nat} {N s : Int} {A : Option Addr} {n c : Nat} {L : List Arc3} (h : NIn w lb sb gb N s A n c L) {S : Nat → Prop} (t : Turn S w w') (hS : ∀ i, S i → ¬ inBlocks lb sb gb A L i) : NIn w' lb sb gb N s A n c L := by
  have l0 := World.block_lt_of_cell? _ _ h.left
  have l1 := World.block_lt_of_cell? _ _ h.start
  have l2 := World.block_lt_of_cell? _ _ h.size
  have s0 : ¬ S lb := fun e => hS _ e (.inl rfl)
  have s1 : ¬ S sb := fun e => hS _ e (.inr (.inl rfl))
  have s2 : ¬ S gb := fun e => hS _ e (.inr (.inr (.inl rfl)))
  exact ⟨(t.cells l0 s0 0).1.trans h.left, (t.cells l1 s1 0).1.trans h.start, (t.cells l2 s2 0).1.trans h.size, (t.cells l2 s2 1).1.trans h.list,
    (h.arcs.turn (Nat.le_refl _) t (fun hl g hg e => hS g e (.inr (.inr (.inr ⟨hl, hg⟩))))).more t.size⟩

theorem inBlocks_lt {w : World} {lb sb gb : Nat} {N s : Int} {A : Option Addr} {n c : Nat} {L : List Arc3} (h : NIn w lb sb gb N s A n c L) {i : Nat} (hi : inBlocks lb sb gb A L i) : i < w.heap.size := by
  rcases hi with rfl | rfl | rfl | ⟨hl, hi⟩
  · exact World.block_lt_of_cell? _ _ h.left
  · exact World.block_lt_of_cell? _ _ h.start
  · exact World.block_lt_of_cell? _ _ h.size
  · obtain ⟨g, off, rfl, hg, -⟩ := h.arcs hl
    have : g = i := by simpa [blockOf] using hi
    omega

end Go.Proofs.Ytlddileiecnkjaa

set_option linter.unusedSimpArgs false
set_option linter.unusedVariables false
namespace Go.Proofs.Ytlddileiecnkjaa
open Go.RowKit

/-- The same end where all goes well, and no other. -/
def NoOut (Q : Exit → Act → World → Prop) : Exit → Act → World → Prop
  | .normal, a, w => Q .normal a w
  | _, _, _ => False
theorem NoOut.normal {Q : Exit → Act → World → Prop} {a : Act} {w : World} (h : Q .normal a w) : NoOut Q .normal a w := h
theorem NoOut.not {Q : Exit → Act → World → Prop} : ¬ LetsOut (NoOut Q) := fun ⟨_, _, h⟩ => h

section
variable {P : Program} {Q : Exit → Act → World → Prop} {K K' : Act → World → Prop} {a : Act} {w : World} {ops : Array Oper} {md : Region.Mode}
theorem upon_wide {o : Oper} {r : Result Next} (hk : ∀ a w, K a w → K' a w) (h : o.upon P a K (NoOut Q) r) : o.uponIn Fence.wide 0 P a K' Q r := by
  cases r with
  | ok x w' =>
    cases x <;> simp only [Oper.upon, Oper.uponIn] at h ⊢
    case value v => exact hk _ _ h
    case skip => exact hk _ _ h
    case defer d => exact hk _ _ h
    case enter f args =>
      refine ⟨fun h => by simp [Fence.wide] at h, callsIn_wide.2 (Calls.mono h fun e w'' he => ?_)⟩
      cases e with
      | returned v => exact hk _ _ he
      | panicked c => exact absurd he id
      | outgrown => exact absurd he NoOut.not
    case row row args =>
      refine ⟨fun h => by simp [Fence.wide] at h, fun c cs _ => ?_⟩
      obtain ⟨v, w2, hr, hs⟩ := h c cs
      exact ⟨v, w2, hk _ _ hr, stepsIn_wide.2 hs⟩
  | halt x w' =>
    cases x <;> simp only [Oper.upon, Oper.uponIn] at h ⊢
    case panic v => exact absurd h id

theorem wpOp_wide {i : Nat} (hk : ∀ a w, K a w → K' a w) (h : wpOp P ops (NoOut Q) i K a w) : wpOpIn Fence.wide 0 P ops Q i K' a w := by
  unfold wpOp at h
  unfold wpOpIn
  cases hi : ops[i]? with
  | none => rw [hi] at h; exact hk _ _ h
  | some o =>
    rw [hi] at h
    simp only at h ⊢
    split
    · rename_i hw
      rw [if_pos hw] at h
      refine ⟨fun _ _ => trivial, ?_⟩
      rcases h with h | h
      · have hr : Fence.wide.round = none := rfl
        rw [hr, Oper.semAt_none]
        exact upon_wide hk h
      · exact absurd h.2 NoOut.not
    · rename_i hw
      rw [if_neg hw] at h
      exact ⟨fun _ _ => trivial, hk _ _ h⟩
theorem wpAny_wide : ∀ (fuel : Nat) (listed : Array Bool) (a : Act) (w : World), wpAny P md ops (NoOut Q) fuel listed a w → wpAnyIn Fence.wide 0 P md ops Q fuel listed a w
  | 0, listed, a, w, h => h
  | fuel + 1, listed, a, w, h => ⟨h.1, fun i hi => wpOp_wide (fun a w => wpAny_wide fuel _ a w) (h.2 i hi)⟩

theorem wpIn_region_held {S : World → Prop} {id : Nat} (hm : P.follows .mixedOrders = true) (hS : S w.drew)
    (h : S w.drew → wpAnyH P .any ops (NoOut Q) S ops.size (Array.replicate ops.size false) a w.drew) : (Code.region id ops true).wpIn Fence.wide 0 P Q a w :=
  wpIn_region_any hm (wpAny_wide _ _ _ _ (wpAny_of_held _ _ _ _ (h hS)))
end

theorem wpListIn_append_any {F : Fence} {n : Nat} {P : Program} (w : World) {ops : Array Oper} {rest : List Oper} {o : Oper} {a : Act} {Q : Exit → Act → World → Prop} (hgd : o.guard = none) (s x : Operand) (t : TypeId)
    (ho : o.op = .call { callee := .builtin .append, args := #[s, x], argTypes := #[t, t] })
    (base : Nat) (e : TypeId) (i : TypeInfo) (z : Value) (size bytes : Nat) (ht : P.underlying t = some (.slice e)) (hi : P.info? e = some i) (hz : i.zero = some z)
    (hsize : i.size = size) (hby : i.bytes = bytes) (hzs : z.cells.size = size) (hsz : 0 < size)
    (v : Value) (k : Nat) (xs : List Value) (hs : a.eval s = v) (hown : w.ownsRow base e size v k xs)
    (B : Nat) (A : Option Addr) (m c : Nat) (news : List Value) (hx : a.eval x = .slice A m c) (hr : Reads w B size A m news) (h1 : ∀ u ∈ news, u.oneCell' = true)
    (h63 : k + m ≤ maxLen) (hbytes : (k + m) * bytes ≤ 140737488355328) (hbase : base ≤ w.heap.size)
    (h : ∀ v' w', w'.ownsRow base e size v' (k + m) (xs ++ news) → w.grownBy w' v.ownBlock → (v'.ownBlock = v.ownBlock ∨ v'.ownBlock = some w.heap.size) → wpListIn F n P ops Q rest (a.put o.dst v') w') : wpListIn F n P ops Q (o :: rest) a w := by
  refine wpListIn_plain hgd fun K hK' => ?_
  obtain ⟨v', w', hrun, h2, h3, h4⟩ := run_append_any (P := P) w base t o.type e i z size bytes ht hi hz hsize hby hzs hsz v k xs hown B A m c news hr h1 h63 hbytes hbase
  unfold Oper.wpIn
  refine ⟨?_, ?_⟩
  · simp [Oper.about, ho, resolve, Target.leads, Sem.run_pure]
  · rw [Oper.semAt_plain F _ _ (by rw [ho]; intro c hc'; cases hc')]
    simp [execOp, ho, resolve, invoke, builtin, hs, hx, hrun, Result.andThen]
    exact hK' _ _ (h v' w' h2 h3 h4)

end Go.Proofs.Ytlddileiecnkjaa
