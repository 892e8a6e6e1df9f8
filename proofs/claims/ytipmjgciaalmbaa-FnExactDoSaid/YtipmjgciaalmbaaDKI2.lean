/-
  What is proved here: where the program finds a file among files in order. No conditions beyond those that each theorem states.
-/
import Derived.Test.YtipmjgciaalmbaaDKI1
import Derived.Lib.Bytealg
import Derived.Laws.Externs
set_option linter.unusedSimpArgs false
set_option linter.unusedVariables false
namespace Go.Proofs.Ytipmjgciaalmbaa
open Go.RowKit

/-- How two texts compare. -/
def cmpS (a b : ByteArray) : Int := Lib.compareBytes a.data.toList b.data.toList
theorem cmpL_less : ∀ (x y : List UInt8), decide (Lib.compareBytes x y < 0) = Op.bytesLess x y ∧ (Lib.compareBytes x y == 0) = (x == y)
  | [], [] => ⟨rfl, rfl⟩
  | [], _ :: _ => ⟨rfl, rfl⟩
  | _ :: _, [] => ⟨rfl, rfl⟩
  | a :: x, b :: y => by
    obtain ⟨h1, h2⟩ := cmpL_less x y
    have hlt : ∀ a b : UInt8, a < b ↔ a.toNat < b.toNat := fun a b => UInt8.lt_iff_toNat_lt
    unfold Lib.compareBytes Op.bytesLess
    by_cases e1 : a < b
    · have hne : ¬ a = b := fun e => by subst e; rw [hlt] at e1; omega
      simp [e1, hne]
    · by_cases e2 : a = b
      · subst e2
        simp [e1, h1, h2]
      · have e3 : b < a := by
          rw [hlt] at *
          have : a.toNat ≠ b.toNat := fun h => e2 (UInt8.toNat_inj.1 h)
          omega
        simp [e1, e2, e3]
theorem cmpS_less (a b : ByteArray) : decide (cmpS a b < 0) = lessB a b := by
  unfold cmpS lessB
  rw [ByteArray.toList_eq, ByteArray.toList_eq]
  exact (cmpL_less _ _).1
theorem cmpS_same (a b : ByteArray) : (cmpS a b == 0) = sameB a b := by
  unfold cmpS sameB
  rw [ByteArray.toList_eq, ByteArray.toList_eq]
  exact (cmpL_less _ _).2

theorem cmpstring_run (a b : ByteArray) (w : World) : (callFunc 151 #[.string a, .string b]).run Try.prog w = .ok (.value (.int .i64 (cmpS a b))) w := by
  rw [run_callFunc_extern Try.func151 (by kernel_rfl) (by kernel_rfl) (by kernel_rfl) (e := Extern.BytealgCompare.compare) (by kernel_rfl), Lib.run_compareString]
  rfl

theorem compare_any (a b : ByteArray) (w : World) : Calls Try.prog 125 #[.string a, .string b] w fun e w' => e = .returned (.int .i64 (cmpS a b)) ∧ w = w' := by
  have h1 : Calls Try.prog 139 #[.string a, .string b] w fun e w' => e = .returned (.int .i64 (cmpS a b)) ∧ w = w' := by
    have hr := cmpstring_run a b
    go_enter Try.func139, Try.ntmps139
    go_wp2
    go_ret
    exact ⟨rfl, rfl⟩
  go_enter Try.func125, Try.ntmps125
  go_wp2_with fail
  refine h1.mono ?_
  rintro e w1 ⟨rfl, rfl⟩
  go_wp2
  go_ret
  exact ⟨rfl, rfl⟩

theorem cmpFile_any (f : Fl) (n : ByteArray) (w : World) : Calls Try.prog 124 #[.agg #[.string f.1, .string f.2], .string n] w fun e w' => e = .returned (.int .i64 (cmpS f.1 n)) ∧ Bl w w' := by
  obtain ⟨a, b⟩ := f
  show Calls Try.prog 124 #[.agg #[.string a, .string b], .string n] w _
  go_enter Try.func124, Try.ntmps124
  go_wp2_with fail
  refine (compare_any a n _).mono ?_
  rintro e w1 ⟨rfl, rfl⟩
  go_wp2
  go_ret
  exact ⟨rfl, (by repeat' (first | exact Bl.refl _ | with_reducible assumption | with_reducible refine Bl.drew_ ?_ | with_reducible refine Bl.drewN_ ?_ _ | with_reducible refine Bl.alloc_ ?_ _ | with_reducible refine Bl.trans_ ?_ (by assumption) | with_reducible refine Bl.trans_ ?_ (And.left (by assumption))))⟩

def PlacePost (L : List Fl) (n : ByteArray) (w : World) (e : Ending) (w' : World) : Prop := ∃ (p : Nat) (f : Bool), PlaceAt L n p f ∧ e = .returned (.tuple #[.int .i64 p, .bool f]) ∧ Bl w w'

set_option maxRecDepth 100000 in
set_option maxHeartbeats 2000000 in
theorem searchFile_any (nm : ByteArray) (A : Option Addr) (n c : Nat) (L : List Fl) (hn : n = L.length) (w : World) (hm : n ≤ 1048576) (hs : SortedF L) (H1 : FilesAt w w.heap.size A L) :
    Calls Try.prog 123 #[.slice A n c, .string nm, .func (.func 124) #[] #[]] w (PlacePost L nm w) := by
  have K1 := Lib.hid H1
  have HN := Lib.hid hn
  have HS := Lib.hid hs
  clear H1 hn hs
  go_enter Try.func123, Try.ntmps123
  go_wp2
  go_loopw [9, 10] (fun x y wr => ∃ i j : Nat, i ≤ j ∧ j ≤ n ∧ x = .int .i64 i ∧ y = .int .i64 j ∧ Bl w wr ∧
      Hid (∀ t (h : t < L.length), t < i → lessB L[t].1 nm = true) ∧ Hid (∀ t (h : t < L.length), j ≤ t → lessB L[t].1 nm = false)) (fun x y _ => (intOf y).toNat - (intOf x).toNat)
  case atStart => exact ⟨0, n, by omega, by omega, rfl, rfl, Bl.refl _, Lib.hid (fun t h h' => absurd h' (by omega)), Lib.hid (fun t h h' => absurd h (by have := HN.out; omega))⟩
  case round =>
    obtain ⟨i, j, hij, hjn, rfl, rfl, hbl, LO, HI⟩ := hrel
    have BW := Lib.hid hbl
    by_cases hlt : i < j
    · have hmn : (i + j) / 2 < n := by omega
      have hkl : (i + j) / 2 < L.length := by have := HN.out; omega
      obtain ⟨g1, o1, rfl, hg1, hc1⟩ := K1.out.cell (by omega)
      obtain ⟨p1, p2⟩ := hc1 ((i + j) / 2) hkl
      rw [← (bcell hbl).1 _ _ hg1] at p1 p2
      obtain ⟨f, hf⟩ : ∃ f, f = L[(i + j) / 2] := ⟨_, rfl⟩
      rw [← hf] at p1 p2
      have HF := Lib.hid hf
      have a1 : (0 : Int) ≤ ((i : Int) + (j : Int)) / 2 := by omega
      have a2 : ((i : Int) + (j : Int)) / 2 < (n : Int) := by omega
      have a3 : (((i : Int) + (j : Int)) / 2).toNat = (i + j) / 2 := by omega
      clear hc1 hf hbl
      by_cases hah : lessB f.1 nm = true
      · have hd : decide (cmpS f.1 nm < 0) = true := by rw [cmpS_less]; exact hah
        have HA := Lib.hid hah
        clear hah
        go_wp2_with fail
        refine (cmpFile_any f nm _).mono ?_
        rintro e w1 ⟨rfl, hb1⟩
        have B1 := Lib.hid (BW.out.trans_ hb1)
        clear hb1 a1 a2 a3
        go_wp2
        go_roundw
        case rel =>
          refine ⟨(i + j) / 2 + 1, j, by omega, hjn, by go_num, rfl, B1.out, Lib.hid fun t h ht => ?_, HI⟩
          rcases Nat.lt_or_ge t ((i + j) / 2) with h' | h'
          · have := sorted_lt HS.out h' hkl
            rw [← HF.out] at this
            exact lessB_trans this HA.out
          · obtain rfl : t = (i + j) / 2 := by omega
            rw [← HF.out]
            exact HA.out
        case measure => simp [intOf]; omega
      · have hah' : lessB f.1 nm = false := by simpa using hah
        have hd : decide (cmpS f.1 nm < 0) = false := by rw [cmpS_less]; exact hah'
        have HA := Lib.hid hah'
        clear hah hah'
        go_wp2_with fail
        refine (cmpFile_any f nm _).mono ?_
        rintro e w1 ⟨rfl, hb1⟩
        have B1 := Lib.hid (BW.out.trans_ hb1)
        clear hb1 a1 a2 a3
        go_wp2
        go_roundw
        case rel =>
          refine ⟨i, (i + j) / 2, by omega, by omega, rfl, by go_num, B1.out, LO, Lib.hid fun t h ht => ?_⟩
          rcases Nat.lt_or_ge ((i + j) / 2) t with h' | h'
          · have hh := sorted_lt HS.out h' h
            rw [← HF.out] at hh
            cases ha : lessB L[t].1 nm with
            | false => rfl
            | true => exact absurd (lessB_trans hh ha) (by rw [HA.out]; simp)
          · obtain rfl : t = (i + j) / 2 := by omega
            rw [← HF.out]
            exact HA.out
        case measure => simp [intOf]; omega
    · obtain rfl : i = j := by omega
      by_cases hn' : i < n
      · have hkl : i < L.length := by have := HN.out; omega
        obtain ⟨g1, o1, rfl, hg1, hc1⟩ := K1.out.cell (by omega)
        obtain ⟨p1, p2⟩ := hc1 i hkl
        rw [← (bcell hbl).1 _ _ hg1] at p1 p2
        obtain ⟨f, hf⟩ : ∃ f, f = L[i] := ⟨_, rfl⟩
        rw [← hf] at p1 p2
        have HF := Lib.hid hf
        have HD := Lib.hid (cmpS_same f.1 nm)
        have h0 : decide ((i : Int) < (n : Int)) = true := by simp; omega
        have i0 : (0 : Int) ≤ (i : Int) := by omega
        have i1 : (i : Int) < (n : Int) := by omega
        clear hc1 hf hbl
        go_wp2_with fail
        refine (cmpFile_any f nm _).mono ?_
        rintro e w1 ⟨rfl, hb1⟩
        have B1 := Lib.hid (BW.out.trans_ hb1)
        clear hb1
        go_wp2
        refine bodyPost_ret (v := .tuple #[.int .i64 (i : Int), .bool (cmpS f.1 nm == 0)]) (by simp [results, Try.results123, go_sem]) rfl ⟨i, _, ⟨by have := HN.out; omega, LO.out, HI.out, ?_⟩, rfl, B1.out⟩
        rw [dif_pos hkl, HD.out, HF.out]
      · have h0 : decide ((i : Int) < (n : Int)) = false := by simp; omega
        go_wp2
        refine bodyPost_ret (v := .tuple #[.int .i64 (i : Int), .bool false]) (by simp [results, Try.results123, go_sem]) rfl ⟨i, false, ⟨by have := HN.out; omega, LO.out, HI.out, ?_⟩, rfl, hbl⟩
        rw [dif_neg (by have := HN.out; omega)]

set_option maxRecDepth 100000 in
set_option maxHeartbeats 1000000 in
theorem placeOfFile_any (nm : ByteArray) (A : Option Addr) (n c : Nat) (L : List Fl) (hn : n = L.length) (w : World) (hm : n ≤ 1048576) (hs : SortedF L) (H1 : FilesAt w w.heap.size A L) :
    Calls Try.prog 104 #[.slice A n c, .string nm] w (PlacePost L nm w) := by
  have K1 := Lib.hid H1
  have HN := Lib.hid hn
  clear H1 hn
  go_enter Try.func104, Try.ntmps104
  go_wp2_with fail
  refine (searchFile_any nm A n c L HN.out _ hm hs K1.out).mono ?_
  rintro e w1 ⟨p, f, hp, rfl, hb1⟩
  have HP := Lib.hid hp
  clear hp
  go_wp2
  refine bodyPost_ret (v := .tuple #[.int .i64 (p : Int), .bool f]) (by simp [results, Try.results104, go_sem]) rfl ⟨p, f, HP.out, rfl, hb1⟩

set_option maxRecDepth 100000 in
set_option maxHeartbeats 1000000 in
theorem hasFile_any (nm : ByteArray) (A : Option Addr) (n c : Nat) (L : List Fl) (hn : n = L.length) (w : World) (hm : n ≤ 1048576) (hs : SortedF L) (H1 : FilesAt w w.heap.size A L) :
    Calls Try.prog 98 #[.slice A n c, .string nm] w fun e w' => e = .returned (.bool (hasL L nm)) ∧ Bl w w' := by
  have K1 := Lib.hid H1
  have HN := Lib.hid hn
  clear H1 hn
  go_enter Try.func98, Try.ntmps98
  go_wp2_with fail
  refine (placeOfFile_any nm A n c L HN.out _ hm hs K1.out).mono ?_
  rintro e w1 ⟨p, f, hp, rfl, hb1⟩
  have HP := Lib.hid (hp.has hs)
  clear hp
  go_wp2
  go_ret
  exact ⟨ret_bool HP.out, hb1⟩

set_option maxRecDepth 100000 in
set_option maxHeartbeats 1000000 in
theorem dataOf_any (nm : ByteArray) (A : Option Addr) (n c : Nat) (L : List Fl) (hn : n = L.length) (w : World) (hm : n ≤ 1048576) (hs : SortedF L) (H1 : FilesAt w w.heap.size A L) :
    Calls Try.prog 62 #[.slice A n c, .string nm] w fun e w' => e = .returned (.tuple #[.string (dataL L nm), .bool (hasL L nm)]) ∧ Bl w w' := by
  have K1 := Lib.hid H1
  have HN := Lib.hid hn
  clear H1 hn
  go_enter Try.func62, Try.ntmps62
  go_wp2_with fail
  refine (placeOfFile_any nm A n c L HN.out _ hm hs K1.out).mono ?_
  rintro e w1 ⟨p, f, hp, rfl, hb1⟩
  have HP := Lib.hid (hp.has hs)
  have B1 := Lib.hid hb1
  cases f with
  | false =>
    have HE := Lib.hid (data_none HP.out.symm)
    clear hp hb1
    go_wp2
    refine bodyPost_ret (v := .tuple #[.string ⟨#[]⟩, .bool false]) (by simp [results, Try.results62, go_sem]) rfl ⟨by rw [HE.out, ← HP.out], B1.out⟩
  | true =>
    obtain ⟨hk, hkn, hkd⟩ := hp.found
    have HE := Lib.hid hkd
    obtain ⟨g1, o1, rfl, hg1, hc1⟩ := K1.out.cell (by omega)
    obtain ⟨-, p2⟩ := hc1 p hk
    rw [← (bcell hb1).1 _ _ hg1, ← hkd] at p2
    obtain ⟨x, hx⟩ : ∃ x, x = dataL L nm := ⟨_, rfl⟩
    rw [← hx] at p2
    have HX := Lib.hid hx
    have i0 : (0 : Int) ≤ (p : Int) := by omega
    have i1 : (p : Int) < (n : Int) := by have := HN.out; omega
    clear hp hb1 hc1 hkd hkn hx
    go_wp2
    refine bodyPost_ret (v := .tuple #[.string x, .bool true]) (by simp [results, Try.results62, go_sem]) rfl ⟨by rw [← HX.out, ← HP.out], B1.out⟩

end Go.Proofs.Ytipmjgciaalmbaa
