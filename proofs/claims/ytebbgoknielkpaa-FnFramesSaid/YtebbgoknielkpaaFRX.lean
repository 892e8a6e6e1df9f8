/-
  What is proved here: plain words on frames set side by side. No conditions beyond those that each theorem states.
-/
import Derived.Test.YtebbgoknielkpaaFRQ
set_option linter.unusedSimpArgs false
set_option linter.unusedVariables false
namespace Go.Proofs.Ytebbgoknielkpaa
open Go.RowKit

theorem extract_toL (s : ByteArray) (a b : Nat) : (s.extract a b).data.toList = (s.data.toList.drop a).take (b - a) := Lib.extract_data s a b
/-- Two pieces side by side. -/
theorem extract_join (s : ByteArray) (a b c : Nat) (h1 : a ≤ b) (h2 : b ≤ c) : s.extract a b ++ s.extract b c = s.extract a c := by
  apply list_eq
  rw [ByteArray.data_append, Array.toList_append, extract_toL, extract_toL, extract_toL]
  have := List.take_append_drop (b - a) ((s.data.toList.drop a).take (c - a))
  rw [List.take_take, List.drop_take, List.drop_drop] at this
  rw [show min (b - a) (c - a) = b - a from by omega, show c - a - (b - a) = c - b from by omega, show a + (b - a) = b from by omega] at this
  exact this
/-- Frames, one behind the other. -/
def catF (V : List ByteArray) : ByteArray := V.foldl (fun r d => r ++ frameB d) ⟨#[]⟩
theorem catF_snoc (V : List ByteArray) (d : ByteArray) : catF (V ++ [d]) = catF V ++ frameB d := by simp [catF]
/-- Bytes that read as the head of a frame are that head. -/
theorem head_back (s : ByteArray) (a : Nat) (h : a + 8 ≤ s.size) (d : ByteArray) (hd : d.size = sizeAt s a) (hs : ((sumBytes (crcAll d)).toList == (s.extract (a + 4) (a + 8)).toList) = true) : headBytes d = s.extract a (a + 8) := by
  have ha : a ≤ s.size := by omega
  have hz := size_from s a ha
  have h1 := head_sum (s.extract a s.size) d (by omega) (by rw [sizeAt_from]; exact hd)
  rw [extract_from s a 4 8 h, extract_from s a 0 8 h, Nat.add_zero, hs] at h1
  have h2 := eq_of_beq h1
  apply list_eq
  rw [← ByteArray.toList_eq, ← ByteArray.toList_eq]
  exact h2
theorem frame_back {s : ByteArray} {a : Nat} (h : isFrame s a = true) : frameB (dataAt s a) = s.extract a (a + 8 + sizeAt s a) := by
  obtain ⟨h1, h2, h3, h4⟩ := isFrame_true h
  have e : (dataAt s a).size = sizeAt s a := by
    unfold dataAt
    rw [ByteArray.size_extract]
    omega
  unfold frameB
  rw [if_neg (by omega), head_back s a h1 _ e h4]
  show s.extract a (a + 8) ++ s.extract (a + 8) (a + 8 + sizeAt s a) = _
  exact extract_join s _ _ _ (by omega) (by omega)
/-- What has been taken is what stood there. -/
theorem stK_cat (s : ByteArray) : ∀ k, (stK s k).2 ≤ s.size ∧ catF (stK s k).1 = s.extract 0 (stK s k).2 ∧ ∀ d ∈ (stK s k).1, d.size ≤ 100000
  | 0 => ⟨Nat.zero_le _, by
      apply list_eq
      rw [extract_toL]
      simp [catF, stK], by simp [stK]⟩
  | k + 1 => by
    obtain ⟨h1, h2, h3⟩ := stK_cat s k
    cases hf : isFrame s (stK s k).2 with
    | false => rw [show stK s (k + 1) = stK s k from if_neg (by simp [hf])]; exact ⟨h1, h2, h3⟩
    | true =>
      obtain ⟨f1, f2, f3, -⟩ := isFrame_true hf
      rw [show stK s (k + 1) = _ from if_pos hf]
      refine ⟨f3, ?_, fun d hd => ?_⟩
      · rw [catF_snoc, h2, frame_back hf]
        exact extract_join s _ _ _ (Nat.zero_le _) (by omega)
      · rcases List.mem_append.1 hd with hd | hd
        · exact h3 d hd
        · obtain rfl : d = dataAt s (stK s k).2 := by simpa using hd
          unfold dataAt
          rw [ByteArray.size_extract]
          omega
theorem takeAll_cat (s : ByteArray) : (takeAll s).2 ≤ s.size ∧ catF (takeAll s).1 = s.extract 0 (takeAll s).2 ∧ ∀ d ∈ (takeAll s).1, d.size ≤ 100000 := stK_cat s s.size

/-- s begins as p. -/
def Begins (p s : ByteArray) : Prop := p.data.toList <+: s.data.toList
theorem begins_extract (s : ByteArray) (k : Nat) : Begins (s.extract 0 k) s := by
  unfold Begins
  rw [extract_toL]
  exact List.take_prefix _ _
theorem begins_append (p q : ByteArray) : Begins p (p ++ q) := by
  unfold Begins
  rw [ByteArray.data_append, Array.toList_append]
  exact List.prefix_append _ _
theorem Begins.size {p s : ByteArray} (h : Begins p s) : p.size ≤ s.size := by
  have := h.length_le
  simpa using this
theorem Begins.byte {p s : ByteArray} (h : Begins p s) {i : Nat} (hi : i < p.size) : byteN p i = byteN s i := by
  obtain ⟨r, hr⟩ := h
  have hi' : i < p.data.toList.length := by simpa using hi
  unfold byteN
  rw [← hr, List.getD_eq_getElem?_getD, List.getD_eq_getElem?_getD, List.getElem?_append_left hi']
theorem Begins.extract {p s : ByteArray} (h : Begins p s) {a b : Nat} (hb : b ≤ p.size) : p.extract a b = s.extract a b := by
  obtain ⟨r, hr⟩ := h
  have hb' : b ≤ p.data.toList.length := by simpa using hb
  apply list_eq
  rw [extract_toL, extract_toL, ← hr]
  by_cases hab : a ≤ b
  · rw [List.drop_append_of_le_length (by omega), List.take_append_of_le_length (by rw [List.length_drop]; omega)]
  · rw [show b - a = 0 from by omega, List.take_zero, List.take_zero]
theorem Begins.frame {p s : ByteArray} (h : Begins p s) {a : Nat} (hf : isFrame p a = true) : isFrame s a = true ∧ sizeAt s a = sizeAt p a ∧ dataAt s a = dataAt p a := by
  obtain ⟨f1, f2, f3, f4⟩ := isFrame_true hf
  have hz := h.size
  have e1 : sizeAt s a = sizeAt p a := by
    rw [sizeAt_eq, sizeAt_eq, h.byte (i := a) (by omega), h.byte (i := a + 1) (by omega), h.byte (i := a + 2) (by omega), h.byte (i := a + 3) (by omega)]
  have e2 : dataAt s a = dataAt p a := by
    unfold dataAt
    rw [e1, h.extract f3]
  refine ⟨?_, e1, e2⟩
  rw [isFrame_eq (by omega) (by rw [e1]; exact f2) (by rw [e1]; omega), e2, ← h.extract (a := a + 4) (b := a + 8) f1]
  exact f4
theorem stK_begins {p s : ByteArray} (h : Begins p s) : ∀ j, ∃ i, i ≤ j ∧ stK p j = stK s i
  | 0 => ⟨0, Nat.le_refl _, rfl⟩
  | j + 1 => by
    obtain ⟨i, hi, e⟩ := stK_begins h j
    cases hf : isFrame p (stK p j).2 with
    | false => exact ⟨i, by omega, by rw [show stK p (j + 1) = stK p j from if_neg (by simp [hf])]; exact e⟩
    | true =>
      obtain ⟨g1, g2, g3⟩ := h.frame hf
      refine ⟨i + 1, by omega, ?_⟩
      rw [show stK p (j + 1) = _ from if_pos hf]
      rw [e] at g1 g2 g3 ⊢
      rw [show stK s (i + 1) = _ from if_pos g1, g2, g3]
theorem stK_prefix (s : ByteArray) (i : Nat) : ∀ j, (stK s i).1 <+: (stK s (i + j)).1
  | 0 => List.prefix_refl _
  | j + 1 => by
    refine (stK_prefix s i j).trans ?_
    show (stK s (i + j)).1 <+: (if isFrame s (stK s (i + j)).2 then _ else _ : List ByteArray × Nat).1
    split
    · exact List.prefix_append _ _
    · exact List.prefix_refl _
/-- Of a beginning, fewer frames are taken, and the same. -/
theorem takeAll_begins {p s : ByteArray} (h : Begins p s) : (takeAll p).1 <+: (takeAll s).1 := by
  obtain ⟨i, hi, e⟩ := stK_begins h p.size
  unfold takeAll
  rw [e]
  have hz := h.size
  have := stK_prefix s i (s.size - i)
  rwa [show i + (s.size - i) = s.size from by omega] at this
theorem headBytes_size (d : ByteArray) : (headBytes d).size = 8 := rfl
theorem frameB_size {d : ByteArray} (h : d.size ≤ 100000) : (frameB d).size = 8 + d.size := by
  unfold frameB
  rw [if_neg (by omega), ByteArray.size_append, headBytes_size]
/-- A frame that is set behind something is found there. -/
theorem frame_found (p d : ByteArray) (hd : d.size ≤ 100000) : isFrame (p ++ frameB d) p.size = true ∧ sizeAt (p ++ frameB d) p.size = d.size ∧ dataAt (p ++ frameB d) p.size = d := by
  have hl : (p ++ frameB d).data.toList = p.data.toList ++ (beBytes d.size ++ (leBytes (crcAll d) ++ d.data.toList)) := by
    unfold frameB
    rw [if_neg (by omega), ByteArray.data_append, ByteArray.data_append, Array.toList_append, Array.toList_append]
    show _ ++ ((beBytes d.size ++ leBytes (crcAll d)) ++ _) = _
    rw [List.append_assoc]
  have hp : p.data.toList.length = p.size := by simp
  have hdl : d.data.toList.length = d.size := by simp
  have hz : (p ++ frameB d).size = p.size + 8 + d.size := by rw [ByteArray.size_append, frameB_size hd]; omega
  have hb : ∀ i, i < 4 → byteN (p ++ frameB d) (p.size + i) = ((beBytes d.size).getD i 0).toNat := fun i hi => by
    unfold byteN
    rw [hl, List.getD_eq_getElem?_getD, List.getD_eq_getElem?_getD, List.getElem?_append_right (by omega), hp, show p.size + i - p.size = i from by omega, List.getElem?_append_left (by simp [beBytes]; omega)]
  have e1 : sizeAt (p ++ frameB d) p.size = d.size := by
    rw [sizeAt_eq, show byteN (p ++ frameB d) p.size = _ from hb 0 (by omega), hb 1 (by omega), hb 2 (by omega), hb 3 (by omega)]
    show 16777216 * (UInt8.ofNat (d.size / 16777216)).toNat + 65536 * (UInt8.ofNat (d.size / 65536)).toNat + 256 * (UInt8.ofNat (d.size / 256)).toNat + (UInt8.ofNat d.size).toNat = _
    rw [UInt8.toNat_ofNat', UInt8.toNat_ofNat', UInt8.toNat_ofNat', UInt8.toNat_ofNat']
    omega
  have e2 : dataAt (p ++ frameB d) p.size = d := by
    apply list_eq
    unfold dataAt
    rw [e1, extract_toL, hl, ← hp, ← List.append_assoc, ← List.append_assoc]
    rw [List.drop_append_of_le_length (by simp [beBytes, leBytes]), List.drop_of_length_le (by simp [beBytes, leBytes]), List.nil_append, List.take_of_length_le (by omega)]
  have e3 : (p ++ frameB d).extract (p.size + 4) (p.size + 8) = sumBytes (crcAll d) := by
    apply list_eq
    rw [extract_toL, hl, ← hp, ← List.append_assoc]
    rw [List.drop_append_of_le_length (by simp [beBytes]), List.drop_of_length_le (by simp [beBytes]), List.nil_append, show p.data.toList.length + 8 - (p.data.toList.length + 4) = 4 from by omega, List.take_append_of_le_length (by simp [leBytes])]
    rfl
  refine ⟨?_, e1, e2⟩
  rw [isFrame_eq (by omega) (by omega) (by omega), e2, e3]
  simp
/-- So many steps, each over a frame. -/
def Steps (s : ByteArray) : Nat → List ByteArray → Nat → Prop
  | 0, V, a => V = [] ∧ a = 0
  | k + 1, V, a => ∃ W b, Steps s k W b ∧ isFrame s b = true ∧ V = W ++ [dataAt s b] ∧ a = b + 8 + sizeAt s b
theorem Steps.st {s : ByteArray} : ∀ {k : Nat} {V : List ByteArray} {a : Nat}, Steps s k V a → stK s k = (V, a)
  | 0, _, _, h => by obtain ⟨rfl, rfl⟩ := h; rfl
  | k + 1, _, _, h => by
    obtain ⟨W, b, h1, hf, rfl, rfl⟩ := h
    exact stK_yes h1.st hf
theorem Steps.begins {p s : ByteArray} (hb : Begins p s) : ∀ {k : Nat} {V : List ByteArray} {a : Nat}, Steps p k V a → Steps s k V a
  | 0, _, _, h => h
  | k + 1, _, _, h => by
    obtain ⟨W, b, h1, hf, rfl, rfl⟩ := h
    obtain ⟨g1, g2, g3⟩ := hb.frame hf
    exact ⟨W, b, Steps.begins hb h1, g1, by rw [g3], by rw [g2]⟩
theorem steps_cat : ∀ (n : Nat) (V : List ByteArray), V.length = n → (∀ d ∈ V, d.size ≤ 100000) → Steps (catF V) n V (catF V).size
  | 0, V, h, _ => by
    obtain rfl : V = [] := List.eq_nil_of_length_eq_zero h
    exact ⟨rfl, rfl⟩
  | n + 1, V, h, hs => by
    have hne : V ≠ [] := fun e => by rw [e] at h; simp at h
    obtain ⟨W, d, rfl⟩ : ∃ W d, V = W ++ [d] := ⟨V.dropLast, V.getLast hne, (List.dropLast_concat_getLast hne).symm⟩
    have hW : W.length = n := by simpa using h
    have hd : d.size ≤ 100000 := hs d (by simp)
    have ih := steps_cat n W hW (fun x hx => hs x (by simp [hx]))
    obtain ⟨g1, g2, g3⟩ := frame_found (catF W) d hd
    rw [catF_snoc]
    refine ⟨W, (catF W).size, Steps.begins (begins_append _ _) ih, g1, by rw [g3], ?_⟩
    rw [g2, ByteArray.size_append, frameB_size hd]
    omega
/-- What is taken of frames is what they are frames of. -/
theorem takeAll_catF (V : List ByteArray) (hs : ∀ d ∈ V, d.size ≤ 100000) : takeAll (catF V) = (V, (catF V).size) := by
  have h := (steps_cat V.length V rfl hs).st
  refine takeAll_of h (isFrame_no (fun hc => by omega)) ?_
  have h2 : ∀ (n : Nat) (W : List ByteArray), W.length = n → (∀ d ∈ W, d.size ≤ 100000) → n ≤ (catF W).size := fun n => by
    induction n with
    | zero => intro W _ _; omega
    | succ n ih =>
      intro V h hs
      have hne : V ≠ [] := fun e => by rw [e] at h; simp at h
      obtain ⟨W, d, rfl⟩ : ∃ W d, V = W ++ [d] := ⟨V.dropLast, V.getLast hne, (List.dropLast_concat_getLast hne).symm⟩
      have := ih W (by simpa using h) (fun x hx => hs x (by simp [hx]))
      rw [catF_snoc, ByteArray.size_append, frameB_size (hs d (by simp))]
      omega
  exact h2 _ V rfl hs

end Go.Proofs.Ytebbgoknielkpaa
