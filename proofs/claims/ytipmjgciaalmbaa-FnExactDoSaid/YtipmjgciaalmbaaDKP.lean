/-
  What is proved here: plain facts on files in order and on ops on them. No conditions beyond those that each theorem states.
-/
import Derived.Test.YtipmjgciaalmbaaW2
import Derived.Lib.SlicesS
set_option linter.unusedSimpArgs false
set_option linter.unusedVariables false
namespace Go.Proofs.Ytipmjgciaalmbaa
open Go.RowKit

theorem bl_trans : ∀ (x y z : List UInt8), Op.bytesLess x y = true → Op.bytesLess y z = true → Op.bytesLess x z = true
  | [], [], _, h, _ => by simp [Op.bytesLess] at h
  | _ :: _, [], _, h, _ => by simp [Op.bytesLess] at h
  | _, _ :: _, [], _, h => by simp [Op.bytesLess] at h
  | [], _ :: _, _ :: _, _, _ => rfl
  | a :: x, b :: y, c :: z, h, k => by
    simp only [Op.bytesLess, Bool.or_eq_true, decide_eq_true_eq, Bool.and_eq_true, beq_iff_eq] at *
    rcases h with h | ⟨rfl, h⟩ <;> rcases k with k | ⟨rfl, k⟩
    · exact .inl (UInt8.lt_trans h k)
    · exact .inl h
    · exact .inl k
    · exact .inr ⟨rfl, bl_trans x y z h k⟩
theorem bl_irrefl : ∀ (x : List UInt8), Op.bytesLess x x = false
  | [] => rfl
  | a :: x => by simp [Op.bytesLess, bl_irrefl x]
theorem bl_total : ∀ (x y : List UInt8), Op.bytesLess x y = false → x ≠ y → Op.bytesLess y x = true
  | [], [], _, h => absurd rfl h
  | a :: x, [], _, _ => rfl
  | [], _ :: _, h, _ => by simp [Op.bytesLess] at h
  | a :: x, b :: y, h, hne => by
    simp only [Op.bytesLess, Bool.or_eq_false_iff, decide_eq_false_iff_not, Bool.and_eq_false_iff, beq_eq_false_iff_ne, Bool.or_eq_true, decide_eq_true_eq, Bool.and_eq_true, beq_iff_eq] at *
    obtain ⟨h1, h2⟩ := h
    by_cases e : a = b
    · subst e
      refine .inr ⟨rfl, bl_total x y (by rcases h2 with h2 | h2; exact absurd rfl h2; exact h2) (fun e => hne (by rw [e]))⟩
    · left
      rw [UInt8.lt_iff_toNat_lt] at *
      have : a.toNat ≠ b.toNat := fun h => e (UInt8.toNat_inj.1 h)
      omega

/-- A file: its name and its data. -/
abbrev Fl := ByteArray × ByteArray
/-- An op. -/
structure Dp where
  kind : Int
  name : ByteArray
  to : ByteArray
  data : ByteArray

def lessB (a b : ByteArray) : Bool := Op.bytesLess a.toList b.toList
def sameB (a b : ByteArray) : Bool := a.toList == b.toList
theorem sameB_iff (a b : ByteArray) : sameB a b = true ↔ a = b := Lib.bytes_beq_iff a b
theorem sameB_false (a b : ByteArray) : sameB a b = false ↔ a ≠ b := Lib.bytes_beq_false_iff a b
theorem sameB_refl (a : ByteArray) : sameB a a = true := (sameB_iff a a).2 rfl
theorem sameB_symm (a b : ByteArray) : sameB a b = sameB b a := by
  cases h : sameB a b
  · exact ((sameB_false b a).2 (fun e => (sameB_false a b).1 h e.symm)).symm
  · rw [(sameB_iff a b).1 h, sameB_refl]
theorem lessB_trans {a b c : ByteArray} (h : lessB a b = true) (k : lessB b c = true) : lessB a c = true := bl_trans _ _ _ h k
theorem lessB_irrefl (a : ByteArray) : lessB a a = false := bl_irrefl _
theorem lessB_total {a b : ByteArray} (h : lessB a b = false) (k : a ≠ b) : lessB b a = true :=
  bl_total _ _ h (fun e => k (by
    have := (Lib.bytes_beq_iff a b).1 (by simp [e])
    exact this))
theorem lessB_ne {a b : ByteArray} (h : lessB a b = true) : sameB a b = false := by
  rw [sameB_false]
  intro e
  rw [e, lessB_irrefl] at h
  exact absurd h (by simp)
theorem lessB_asymm {a b : ByteArray} (h : lessB a b = true) : lessB b a = false := by
  cases k : lessB b a
  · rfl
  · have := lessB_trans h k
    rw [lessB_irrefl] at this
    exact absurd this (by simp)

def SortedF (L : List Fl) : Prop := L.Pairwise (fun f g => lessB f.1 g.1 = true)
def hasL (L : List Fl) (n : ByteArray) : Bool := L.any (fun f => sameB f.1 n)
def dataL (L : List Fl) (n : ByteArray) : ByteArray := match L.find? (fun f => sameB f.1 n) with
  | some f => f.2
  | none => ⟨#[]⟩
def cutL (L : List Fl) (n : ByteArray) : List Fl := L.filter (fun f => !sameB f.1 n)
def insL (n d : ByteArray) : List Fl → List Fl
  | [] => [(n, d)]
  | f :: r => if lessB f.1 n then f :: insL n d r else (n, d) :: f :: r
def putL (L : List Fl) (n d : ByteArray) : List Fl := insL n d (cutL L n)
def sumL (L : List Fl) : Nat := (L.map (fun f => f.2.size)).sum

theorem has_of_at {L : List Fl} {k : Nat} (hk : k < L.length) {n : ByteArray} (h : sameB L[k].1 n = true) : hasL L n = true := by
  unfold hasL
  rw [List.any_eq_true]
  exact ⟨_, List.getElem_mem hk, h⟩
theorem has_none {L : List Fl} {n : ByteArray} (h : ∀ k (hk : k < L.length), sameB L[k].1 n = false) : hasL L n = false := by
  unfold hasL
  rw [List.any_eq_false]
  intro f hf
  obtain ⟨k, hk, rfl⟩ := List.getElem_of_mem hf
  rw [h k hk]; simp
theorem data_at : ∀ {L : List Fl} {k : Nat} (hk : k < L.length) {n : ByteArray}, sameB L[k].1 n = true → (∀ j (hj : j < k), sameB (L[j]'(by omega)).1 n = false) → dataL L n = L[k].2
  | [], _, hk, _, _, _ => absurd hk (by simp)
  | f :: r, 0, _, n, h, _ => by
    have h' : sameB f.1 n = true := h
    unfold dataL
    rw [List.find?_cons_of_pos (p := fun f : Fl => sameB f.1 n) h']
    rfl
  | f :: r, k + 1, hk, n, h, h0 => by
    have h1 : sameB f.1 n = false := h0 0 (by omega)
    have := data_at (L := r) (k := k) (by simpa using hk) (n := n) h (fun j hj => h0 (j + 1) (by omega))
    unfold dataL at this ⊢
    rw [List.find?_cons_of_neg (p := fun f : Fl => sameB f.1 n) (by rw [h1]; simp)]
    exact this
theorem data_none {L : List Fl} {n : ByteArray} (h : hasL L n = false) : dataL L n = ⟨#[]⟩ := by
  unfold hasL at h
  unfold dataL
  rw [List.find?_eq_none.2 (fun f hf => by rw [List.any_eq_false] at h; simpa using h f hf)]
theorem sorted_lt {L : List Fl} (h : SortedF L) {i j : Nat} (hij : i < j) (hj : j < L.length) : lessB (L[i]'(by omega)).1 L[j].1 = true :=
  List.pairwise_iff_getElem.1 h i j (by omega) hj hij

/-- Where the search ends: all ahead of p are less, none from p on is; f: at p is the file of that name. -/
def PlaceAt (L : List Fl) (n : ByteArray) (p : Nat) (f : Bool) : Prop :=
  p ≤ L.length ∧ (∀ t (h : t < L.length), t < p → lessB L[t].1 n = true) ∧ (∀ t (h : t < L.length), p ≤ t → lessB L[t].1 n = false) ∧
    f = (if h : p < L.length then sameB L[p].1 n else false)
theorem PlaceAt.has {L : List Fl} {n : ByteArray} {p : Nat} {f : Bool} (h : PlaceAt L n p f) (hs : SortedF L) : f = hasL L n := by
  obtain ⟨h1, h2, h3, h4⟩ := h
  subst h4
  by_cases hp : p < L.length
  · rw [dif_pos hp]
    cases hsm : sameB L[p].1 n with
    | true => exact (has_of_at hp hsm).symm
    | false =>
      refine (has_none fun k hk => ?_).symm
      rcases Nat.lt_trichotomy k p with hk' | rfl | hk'
      · exact lessB_ne (h2 k hk hk')
      · exact hsm
      · have a := sorted_lt hs hk' hk
        have b := lessB_total (h3 p hp (Nat.le_refl _)) ((sameB_false _ _).1 hsm)
        have c := lessB_trans b a
        rw [sameB_symm]
        exact lessB_ne c
  · rw [dif_neg hp]
    exact (has_none fun k hk => lessB_ne (h2 k hk (by omega))).symm
theorem PlaceAt.found {L : List Fl} {n : ByteArray} {p : Nat} (h : PlaceAt L n p true) : ∃ hp : p < L.length, L[p].1 = n ∧ dataL L n = L[p].2 := by
  obtain ⟨h1, h2, h3, h4⟩ := h
  by_cases hp : p < L.length
  · rw [dif_pos hp] at h4
    exact ⟨hp, (sameB_iff _ _).1 h4.symm, data_at hp h4.symm fun j hj => lessB_ne (h2 j (by omega) hj)⟩
  · rw [dif_neg hp] at h4
    exact absurd h4 (by simp)
theorem ins_split (n d : ByteArray) : ∀ (L : List Fl) (p : Nat), p ≤ L.length → (∀ t (h : t < L.length), t < p → lessB L[t].1 n = true) → (∀ t (h : t < L.length), p ≤ t → lessB L[t].1 n = false) →
    L.take p ++ (n, d) :: L.drop p = insL n d L
  | [], p, hp, _, _ => by
    have : p = 0 := by simpa using hp
    subst this; rfl
  | f :: r, 0, _, _, h => by
    have h0 : lessB f.1 n = false := h 0 (by simp) (Nat.le_refl _)
    simp [insL, h0]
  | f :: r, p + 1, hp, h1, h2 => by
    have h0 : lessB f.1 n = true := h1 0 (by simp) (by omega)
    have := ins_split n d r p (by simpa using hp) (fun t h ht => h1 (t + 1) (by simpa using h) (by omega)) (fun t h ht => h2 (t + 1) (by simpa using h) (by omega))
    simp [insL, h0, this]
theorem PlaceAt.ins {L : List Fl} {n : ByteArray} {p : Nat} {f : Bool} (h : PlaceAt L n p f) (d : ByteArray) : L.take p ++ (n, d) :: L.drop p = insL n d L :=
  ins_split n d L p h.1 h.2.1 h.2.2.1

theorem ins_mem {n d : ByteArray} : ∀ {L : List Fl} {f : Fl}, f ∈ insL n d L → f = (n, d) ∨ f ∈ L
  | [], f, h => by simp [insL] at h; exact .inl h
  | g :: r, f, h => by
    unfold insL at h
    split at h
    · rcases List.mem_cons.1 h with h | h
      · exact .inr (by simp [h])
      · rcases ins_mem h with h | h
        · exact .inl h
        · exact .inr (by simp [h])
    · rcases List.mem_cons.1 h with h | h
      · exact .inl h
      · exact .inr h
theorem ins_sorted {n d : ByteArray} : ∀ {L : List Fl}, SortedF L → (∀ f ∈ L, sameB f.1 n = false) → SortedF (insL n d L)
  | [], _, _ => by simp [insL, SortedF]
  | f :: r, hs, hn => by
    obtain ⟨h1, h2⟩ := List.pairwise_cons.1 hs
    unfold insL
    split
    · rename_i hl
      refine List.pairwise_cons.2 ⟨fun g hg => ?_, ins_sorted h2 (fun g hg => hn g (by simp [hg]))⟩
      rcases ins_mem hg with rfl | hg
      · exact hl
      · exact h1 g hg
    · rename_i hl
      have hnf : lessB n f.1 = true := lessB_total (by simpa using hl) ((sameB_false _ _).1 (hn f (by simp)))
      refine List.pairwise_cons.2 ⟨fun g hg => ?_, hs⟩
      rcases List.mem_cons.1 hg with rfl | hg
      · exact hnf
      · exact lessB_trans hnf (h1 g hg)
theorem ins_len (n d : ByteArray) : ∀ (L : List Fl), (insL n d L).length = L.length + 1
  | [] => rfl
  | f :: r => by
    unfold insL
    split
    · simp [ins_len n d r]
    · rfl
theorem ins_sum (n d : ByteArray) : ∀ (L : List Fl), sumL (insL n d L) = sumL L + d.size
  | [] => by simp [insL, sumL]
  | f :: r => by
    have := ins_sum n d r
    unfold insL
    split
    · simp only [sumL, List.map_cons, List.sum_cons] at this ⊢; omega
    · simp only [sumL, List.map_cons, List.sum_cons]; omega
theorem cut_sorted {L : List Fl} (h : SortedF L) (n : ByteArray) : SortedF (cutL L n) := List.Pairwise.filter _ h
theorem cut_ne {L : List Fl} {n : ByteArray} {f : Fl} (h : f ∈ cutL L n) : sameB f.1 n = false := by
  have := (List.mem_filter.1 h).2
  simpa using this
theorem cut_mem {L : List Fl} {n : ByteArray} {f : Fl} (h : f ∈ cutL L n) : f ∈ L := (List.mem_filter.1 h).1
theorem cut_len (L : List Fl) (n : ByteArray) : (cutL L n).length ≤ L.length := List.length_filter_le _ _
theorem cut_sum (n : ByteArray) : ∀ (L : List Fl), sumL (cutL L n) ≤ sumL L
  | [] => by simp [cutL, sumL]
  | f :: r => by
    have := cut_sum n r
    unfold cutL at this ⊢
    rw [List.filter_cons]
    split
    · simp only [sumL, List.map_cons, List.sum_cons] at this ⊢; omega
    · simp only [sumL, List.map_cons, List.sum_cons] at this ⊢; omega
theorem data_size (L : List Fl) (n : ByteArray) : (dataL L n).size + sumL (cutL L n) ≤ sumL L := by
  induction L with
  | nil => exact Nat.le_refl 0
  | cons f r ih =>
    unfold dataL cutL at ih ⊢
    rw [List.filter_cons]
    cases h : sameB f.1 n with
    | true =>
      rw [List.find?_cons_of_pos (p := fun f : Fl => sameB f.1 n) h]
      have := cut_sum n r
      unfold cutL at this
      simp only [Bool.not_true, Bool.false_eq_true, if_false, sumL, List.map_cons, List.sum_cons] at this ⊢
      omega
    | false =>
      rw [List.find?_cons_of_neg (p := fun f : Fl => sameB f.1 n) (by rw [h]; simp)]
      simp only [Bool.not_false, if_true, sumL, List.map_cons, List.sum_cons] at ih ⊢
      omega
theorem put_sorted {L : List Fl} (h : SortedF L) (n d : ByteArray) : SortedF (putL L n d) := ins_sorted (cut_sorted h n) (fun f hf => cut_ne hf)

/-- The model's put: file by file; b: the new one is in. -/
def putK (n d : ByteArray) : List Fl → Bool → List Fl
  | [], b => if b then [] else [(n, d)]
  | f :: r, b => (if !b && !lessB f.1 n then [(n, d)] else []) ++ (if sameB f.1 n then [] else [f]) ++ putK n d r (b || !lessB f.1 n)
theorem putK_true (n d : ByteArray) : ∀ (L : List Fl), putK n d L true = cutL L n
  | [] => rfl
  | f :: r => by
    have := putK_true n d r
    unfold cutL at this ⊢
    unfold putK
    rw [List.filter_cons]
    cases h : sameB f.1 n <;> simp [h, this]
theorem ins_ge (n d : ByteArray) : ∀ {L : List Fl}, (∀ f ∈ L, lessB f.1 n = false) → insL n d L = (n, d) :: L
  | [], _ => rfl
  | f :: r, h => by
    unfold insL
    rw [if_neg (by rw [h f (by simp)]; simp)]
theorem putK_eq (n d : ByteArray) : ∀ {L : List Fl}, SortedF L → putK n d L false = putL L n d
  | [], _ => rfl
  | f :: r, hs => by
    obtain ⟨h1, h2⟩ := List.pairwise_cons.1 hs
    unfold putK
    cases hl : lessB f.1 n with
    | true =>
      have hne := lessB_ne hl
      have := putK_eq n d h2
      simp only [hne, Bool.not_true, Bool.and_false, Bool.false_eq_true, if_false, Bool.or_false, List.nil_append]
      rw [this]
      unfold putL cutL
      rw [List.filter_cons, hne]
      simp [insL, hl]
    | false =>
      simp only [Bool.not_false, Bool.and_true, if_true, Bool.or_true]
      rw [putK_true]
      unfold putL
      have hge : ∀ g ∈ cutL (f :: r) n, lessB g.1 n = false := fun g hg => by
        rcases List.mem_cons.1 (cut_mem hg) with rfl | hg
        · exact hl
        · cases k : lessB g.1 n
          · rfl
          · have := lessB_trans (h1 g hg) k
            rw [hl] at this
            exact absurd this (by simp)
      rw [ins_ge n d hge]
      unfold cutL
      rw [List.filter_cons]
      cases h : sameB f.1 n <;> simp [h]

/-- A name that may be. -/
def nameB (s : ByteArray) : Bool := decide (1 ≤ s.size) && decide (s.size ≤ 100)
def emptyB (s : ByteArray) : Bool := s.toList.isEmpty
def fitsB (L : List Fl) : Bool := decide (L.length ≤ 60) && decide (sumL L ≤ 200000)
def ordB : List Fl → Bool
  | [] => true
  | f :: r => nameB f.1 && (match r with | [] => true | g :: _ => lessB f.1 g.1) && ordB r
def filesB (L : List Fl) : Bool := fitsB L && ordB L
def formB (o : Dp) : Bool :=
  decide (1 ≤ o.kind) && decide (o.kind ≤ 3) && nameB o.name && (if o.kind = 2 then nameB o.to && emptyB o.data else emptyB o.to && (decide (o.kind = 1) || emptyB o.data))
def foundB (L : List Fl) (o : Dp) : Bool := decide (o.kind = 1) || hasL L o.name
def doL (L : List Fl) (o : Dp) : List Fl :=
  if o.kind = 1 then putL L o.name (dataL L o.name ++ o.data)
  else if hasL L o.name then (if o.kind = 2 then putL (cutL L o.name) o.to (dataL L o.name) else cutL L o.name) else L
def goodB : List Fl → List Dp → Bool
  | _, [] => true
  | L, o :: r => formB o && foundB L o && fitsB (doL L o) && goodB (doL L o) r
def doAll (L : List Fl) (O : List Dp) : List Fl := O.foldl doL L
def sameL : List Fl → List Fl → Bool
  | [], [] => true
  | f :: r, g :: t => sameB f.1 g.1 && sameB f.2 g.2 && sameL r t
  | _, _ => false
theorem sameL_iff : ∀ (L M : List Fl), sameL L M = true ↔ L = M
  | [], [] => by simp [sameL]
  | [], _ :: _ => by simp [sameL]
  | _ :: _, [] => by simp [sameL]
  | f :: r, g :: t => by
    simp only [sameL, Bool.and_eq_true, sameB_iff, sameL_iff r t, List.cons.injEq]
    exact ⟨fun h => ⟨Prod.ext h.1.1 h.1.2, h.2⟩, fun h => ⟨⟨by rw [h.1], by rw [h.1]⟩, h.2⟩⟩
/-- A disk: its live files, its safe files, its ops. -/
abbrev Dk := List Fl × List Fl × List Dp
def diskB (D : Dk) : Bool := filesB D.2.1 && decide (D.2.2.length ≤ 200) && goodB D.2.1 D.2.2 && sameL (doAll D.2.1 D.2.2) D.1

theorem ord_sorted : ∀ {L : List Fl}, ordB L = true → SortedF L
  | [], _ => List.Pairwise.nil
  | [f], _ => List.pairwise_singleton _ _
  | f :: g :: r, h => by
    unfold ordB at h
    simp only [Bool.and_eq_true] at h
    have ih := ord_sorted h.2
    refine List.pairwise_cons.2 ⟨fun x hx => ?_, ih⟩
    rcases List.mem_cons.1 hx with rfl | hx
    · exact h.1.2
    · exact lessB_trans h.1.2 ((List.pairwise_cons.1 ih).1 x hx)
theorem ord_names : ∀ {L : List Fl}, ordB L = true → ∀ f ∈ L, nameB f.1 = true
  | [], _, f, hf => by simp at hf
  | g :: r, h, f, hf => by
    unfold ordB at h
    simp only [Bool.and_eq_true] at h
    rcases List.mem_cons.1 hf with rfl | hf
    · exact h.1.1
    · exact ord_names h.2 f hf
theorem ord_of : ∀ {L : List Fl}, SortedF L → (∀ f ∈ L, nameB f.1 = true) → ordB L = true
  | [], _, _ => rfl
  | [f], _, h => by simp [ordB, h f (by simp)]
  | f :: g :: r, hs, h => by
    obtain ⟨h1, h2⟩ := List.pairwise_cons.1 hs
    have ih := ord_of h2 (fun x hx => h x (by simp [hx]))
    unfold ordB
    simp only [Bool.and_eq_true]
    exact ⟨⟨h f (by simp), h1 g (by simp)⟩, ih⟩
theorem do_sorted {L : List Fl} (h : SortedF L) (o : Dp) : SortedF (doL L o) := by
  unfold doL
  split
  · exact put_sorted h _ _
  · split
    · split
      · exact put_sorted (cut_sorted h _) _ _
      · exact cut_sorted h _
    · exact h
theorem do_names {L : List Fl} (h : ∀ f ∈ L, nameB f.1 = true) {o : Dp} (ho : formB o = true) : ∀ f ∈ doL L o, nameB f.1 = true := by
  unfold formB at ho
  simp only [Bool.and_eq_true] at ho
  have hn := ho.1.2
  intro f hf
  unfold doL putL at hf
  split at hf
  · rcases ins_mem hf with rfl | hf
    · exact hn
    · exact h f (cut_mem hf)
  · split at hf
    · split at hf
      · rename_i h2
        rcases ins_mem hf with rfl | hf
        · have := ho.2
          rw [if_pos h2, Bool.and_eq_true] at this
          exact this.1
        · exact h f (cut_mem (cut_mem hf))
      · exact h f (cut_mem hf)
    · exact h f hf
theorem do_len (L : List Fl) (o : Dp) : (doL L o).length ≤ L.length + 1 := by
  have h1 := cut_len L o.name
  have h2 := cut_len (cutL L o.name) o.to
  unfold doL putL
  split
  · rw [ins_len]; omega
  · split
    · split
      · rw [ins_len]; omega
      · omega
    · omega
theorem do_sum (L : List Fl) (o : Dp) : sumL (doL L o) ≤ sumL L + o.data.size := by
  have h1 := data_size L o.name
  have h2 := cut_sum o.to (cutL L o.name)
  unfold doL putL
  split
  · rw [ins_sum, ByteArray.size_append]; omega
  · split
    · split
      · rw [ins_sum]; omega
      · omega
    · omega
theorem do_files {L : List Fl} (h : ordB L = true) {o : Dp} (ho : formB o = true) : ordB (doL L o) = true :=
  ord_of (do_sorted (ord_sorted h) o) (do_names (ord_names h) ho)
theorem good_files : ∀ {O : List Dp} {L : List Fl}, filesB L = true → goodB L O = true → filesB (doAll L O) = true
  | [], L, h, _ => h
  | o :: r, L, h, hg => by
    unfold goodB at hg
    simp only [Bool.and_eq_true] at hg
    unfold filesB at h
    rw [Bool.and_eq_true] at h
    exact good_files (O := r) (by unfold filesB; rw [Bool.and_eq_true]; exact ⟨hg.1.2, do_files h.2 hg.1.1.1⟩) hg.2
theorem disk_live {D : Dk} (h : diskB D = true) : filesB D.1 = true := by
  unfold diskB at h
  simp only [Bool.and_eq_true] at h
  have := good_files h.1.1.1 h.1.2
  rwa [(sameL_iff _ _).1 h.2] at this

end Go.Proofs.Ytipmjgciaalmbaa
