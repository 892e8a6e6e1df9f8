/-
  What is proved here: the program takes the frames with which a text begins. No conditions beyond those that each theorem states.
-/
import Derived.Test.YtebbgoknielkpaaFRF
import Derived.Test.YtebbgoknielkpaaFRM
set_option linter.unusedSimpArgs false
set_option linter.unusedVariables false
namespace Go.Proofs.Ytebbgoknielkpaa
open Go.RowKit

/-- The frames with which s begins, in a list of their own, and where they end. -/
def TakenP (s : ByteArray) (w : World) (e : Ending) (w' : World) : Prop :=
  ∃ v, e = .returned (.tuple #[v, .int .i64 ((takeAll s).2 : Int)]) ∧ OwnS w' w.heap.size v (takeAll s).1 ∧ Bl w w'
/-- A state on the way. -/
def TakeSt (s : ByteArray) (V : List ByteArray) (a k : Nat) : Prop := stK s k = (V, a) ∧ 8 * k ≤ a ∧ a ≤ s.size
theorem TakeSt.zero (s : ByteArray) : TakeSt s [] 0 0 := ⟨rfl, by omega, by omega⟩
theorem TakeSt.next {s : ByteArray} {V : List ByteArray} {a k : Nat} (h : TakeSt s V a k) (hf : isFrame s a = true) : TakeSt s (V ++ [dataAt s a]) (a + 8 + sizeAt s a) (k + 1) := by
  obtain ⟨h1, h2, h3⟩ := h
  obtain ⟨f1, f2, f3, -⟩ := isFrame_true hf
  exact ⟨stK_yes h1 hf, by omega, f3⟩
theorem TakeSt.done {s : ByteArray} {V : List ByteArray} {a k : Nat} (h : TakeSt s V a k) (hf : isFrame s a = false) : takeAll s = (V, a) :=
  takeAll_of h.1 hf (by have := h.2; omega)
theorem TakeSt.len {s : ByteArray} {V : List ByteArray} {a k : Nat} (h : TakeSt s V a k) : 8 * V.length ≤ s.size := by
  have := stK_len s k
  rw [h.1] at this
  have := h.2
  simp only at *
  omega
def strLen : Value → Nat
  | .string b => b.size
  | _ => 0
theorem dataAt_size {s : ByteArray} {a : Nat} (h : a + 8 + sizeAt s a ≤ s.size) : (dataAt s a).size = sizeAt s a := by
  unfold dataAt
  rw [ByteArray.size_extract]
  omega

set_option maxHeartbeats 2000000 in
theorem implTake_any (s : ByteArray) (hs : s.size ≤ 1048576) (w : World) : Calls Try.prog 18 #[.string s] w (TakenP s w) := by
  obtain ⟨i0, hi, hz0, hz1, hz2⟩ := info_parts infoStr
  have I0 := Lib.hid hi
  have I1 := Lib.hid hz0
  have I2 := Lib.hid hz1
  have I3 := Lib.hid hz2
  clear hi hz0 hz1 hz2
  go_enter Try.func18, Try.ntmps18
  go_wp2
  go_loopw [4, 5] (fun v y wr => ∃ (k a : Nat) (V : List ByteArray) (z : ByteArray), y = .string z ∧ Hid (TakeSt s V a k) ∧ Hid (z = s.extract a s.size) ∧ OwnS wr w.heap.size v V ∧ Bl w wr) (fun _ y _ => strLen y)
  case atStart =>
    refine ⟨0, 0, [], s, rfl, Lib.hid (TakeSt.zero s), Lib.hid ?_, OwnS.nil_ _ _, Bl.refl w⟩
    simp
  case round =>
    obtain ⟨k, a, V, y, rfl, HT, HY, hown, hbl⟩ := hrel
    have ha := HT.out.2.2
    have hys : y.size = s.size - a := by rw [HY.out, size_from s a ha]
    have hy1 : y.size ≤ 1048576 := by omega
    obtain ⟨A, c, rfl, hc, -, -, hA⟩ := hown.shape
    have O := Lib.hid hown
    have BW := Lib.hid hbl
    have hvl := HT.out.len
    obtain ⟨l, hl⟩ : ∃ l, l = V.length := ⟨_, rfl⟩
    rw [← hl] at hvl hc
    have HL := Lib.hid hl
    have OW := Lib.hid (show wr.ownsRow w.heap.size 9 1 (.slice A V.length c) l (csS V) from by
      have h := hown
      unfold OwnS Owns at h
      rw [hl]; rw [← hl] at h ⊢
      exact h)
    rw [← hl] at OW O ⊢
    clear hl hown hbl hA
    go_wp2_with fail
    refine (firstFrame_any y hy1 _).mono ?_
    rintro e w1 ⟨⟨z, b, rfl, hb, hz⟩, hb1⟩
    obtain ⟨fe, fd⟩ := isFrame_from s a ha
    rw [← HY.out] at fe fd
    have hbf : b = isFrame s a := hb.trans fe
    clear hb fe
    cases b with
    | false =>
      have TD := Lib.hid (HT.out.done hbf.symm)
      have HW1 := Lib.hid (BW.out.trans_ hb1)
      have O1 := Lib.hid (O.out.bl hb1)
      have hsy : (s.size : Int) - (y.size : Int) = (a : Int) := by omega
      clear hz fd hbf hb1 hys
      go_wp2
      refine bodyPost_ret (v := .tuple #[.slice A l c, .int .i64 (a : Int)]) (by simp [results, Try.results18, go_sem]) rfl ?_
      refine ⟨.slice A l c, by rw [TD.out], by rw [TD.out]; exact O1.out, HW1.out⟩
    | true =>
      have hzd : z = dataAt s a := (hz rfl).trans (fd hbf.symm)
      obtain ⟨f1, f2, f3, -⟩ := isFrame_true hbf.symm
      have hzs : z.size = sizeAt s a := by rw [hzd]; exact dataAt_size f3
      have TN := Lib.hid (HT.out.next hbf.symm)
      obtain ⟨n, hn⟩ : ∃ n, n = sizeAt s a := ⟨_, rfl⟩
      rw [← hn] at hzs TN f2 f3
      have hex : y.extract (8 + n) y.size = s.extract (a + 8 + n) s.size := by
        rw [hys, HY.out, extract_from s a _ _ (by omega), show a + (8 + n) = a + 8 + n from by omega, show a + (s.size - a) = s.size from by omega]
      have hy8 : 8 + n ≤ y.size := by omega
      have HZD := Lib.hid hzd
      have HEX := Lib.hid hex
      have hss := BW.out.size
      have hs1 := hb1.size
      have HB1 := Lib.hid hb1
      clear hz fd hbf hzd hn hex f1 f3
      go_wp2_with (at_builtin; refine wpList_append_own _ rfl (.tmp 22) (.tmp 24) _ rfl w.heap.size 9 i0 _ 1 16 Try.underlying24 I0.out I1.out I2.out I3.out rfl (by decide) _ l (csS V) rfl (World.ownsRow.alloc (Owns.bl OW.out HB1.out) _) ⟨w1.heap.size, 0, none⟩ 1 1 [.string z] rfl rfl ?c0 (by simp [Value.oneCell']) ?c3 ?c4 ?c5 ?_)
      case c0 =>
        intro j u hj
        match j, hj with
        | 0, hj => simp at hj; subst hj; simp [Addr.add, go_sem]
        | (j + 1), hj => simp at hj
      case c3 => unfold maxLen; omega
      case c4 => omega
      case c5 => simp; omega
      intro v8 w8 hown8 hg8 _
      have O8 := Lib.hid (OwnS.snoc (V := V) (x := z) (n := l) HL.out (by simpa using hown8))
      have B8 := Lib.hid (((BW.out.trans_ HB1.out).alloc_ _).grown_ hg8 (fun g hg => by have := (World.ownsRow.lt OW.out g hg).1; simpa using this))
      clear hown8 hg8
      go_wp2
      go_roundw
      case rel =>
        refine ⟨k + 1, a + 8 + n, V ++ [z], _, rfl, Lib.hid (by rw [HZD.out]; exact TN.out), Lib.hid ?_, O8.out, B8.out⟩
        rw [← hys]
        exact HEX.out
      case measure =>
        show (y.extract (8 + n) (s.size - a)).size < y.size
        rw [ByteArray.size_extract]
        omega

end Go.Proofs.Ytebbgoknielkpaa
