/-
  What is proved here: both sides' DiskOk and ReadFile, at disks that are no larger than is asked. No conditions beyond those that each theorem states.
-/
import Derived.Test.YtipmjgciaalmbaaDKL3
import Derived.Test.YtipmjgciaalmbaaDKI7
set_option linter.unusedSimpArgs false
set_option linter.unusedVariables false
namespace Go.Proofs.Ytipmjgciaalmbaa
open Go.RowKit

/-- The lists of a disk are as long as is told, and no larger than is asked. -/
structure DkB (n1 n2 n3 : Nat) (L1 L2 : List Fl) (O : List Dp) : Prop where
  l1 : n1 = L1.length
  l2 : n2 = L2.length
  l3 : n3 = O.length
  m1 : n1 ≤ 1048576
  m2 : n2 ≤ 1048576
  m3 : n3 ≤ 1048576
  s1 : sumL L1 ≤ 1048576
  s2 : sumL L2 ≤ 1048576
  s3 : szL szDp O ≤ 1048576
theorem sumL_sz : ∀ (L : List Fl), sumL L ≤ szL szFl L
  | [] => Nat.le_refl _
  | f :: r => by
    have := sumL_sz r
    have e : szFl f = f.1.size + f.2.size := rfl
    simp only [sumL, szL, List.map_cons, List.sum_cons] at this ⊢
    omega
theorem DkB.of {n1 n2 n3 : Nat} {L1 L2 : List Fl} {O : List Dp} (h1 : n1 = L1.length) (h2 : n2 = L2.length) (h3 : n3 = O.length) (h : dkSz L1 L2 O ≤ 1048576) : DkB n1 n2 n3 L1 L2 O := by
  have a := sumL_sz L1
  have b := sumL_sz L2
  unfold dkSz at h
  exact ⟨h1, h2, h3, by omega, by omega, by omega, by omega, by omega, by omega⟩
theorem DkB.sz {n1 n2 n3 : Nat} {L1 L2 : List Fl} {O : List Dp} (h : ¬ leftI 1048576 (dkSz L1 L2 O) < 0) : dkSz L1 L2 O ≤ 1048576 := by
  unfold leftI at h
  split at h
  · omega
  · omega
theorem specOk_dk {A1 A2 A3 : Option Addr} {n1 n2 n3 c1 c2 c3 : Nat} {L1 L2 : List Fl} {O : List Dp} (hb : DkB n1 n2 n3 L1 L2 O) (w : World) (H : DiskAt w w.heap.size A1 A2 A3 L1 L2 O) :
    Calls Try.prog 14 #[.agg #[.slice A1 n1 c1, .slice A2 n2 c2, .slice A3 n3 c3]] w fun e w' => e = .returned (.bool (diskB (L1, L2, O))) ∧ Bl w w' :=
  specDiskOk_any A1 A2 A3 n1 c1 n2 c2 n3 c3 L1 L2 O hb.l1 hb.l2 hb.l3 w hb.m1 hb.m2 hb.m3 hb.s1 hb.s2 hb.s3 H.f1 H.f2 H.f3
theorem implOk_dk {A1 A2 A3 : Option Addr} {n1 n2 n3 c1 c2 c3 : Nat} {L1 L2 : List Fl} {O : List Dp} (hb : DkB n1 n2 n3 L1 L2 O) (w : World) (H : DiskAt w w.heap.size A1 A2 A3 L1 L2 O) :
    Calls Try.prog 16 #[.agg #[.slice A1 n1 c1, .slice A2 n2 c2, .slice A3 n3 c3]] w fun e w' => e = .returned (.bool (diskB (L1, L2, O))) ∧ Bl w w' :=
  implDiskOk_any A1 A2 A3 n1 c1 n2 c2 n3 c3 L1 L2 O hb.l1 hb.l2 hb.l3 w hb.m1 hb.m2 hb.m3 hb.s1 hb.s2 hb.s3 H.f1 H.f2 H.f3

/-- What is read. -/
def readD (D : Dk) (nm : ByteArray) : ByteArray × Bool := if diskB D then (dataL D.1 nm, hasL D.1 nm) else (⟨#[]⟩, false)
theorem readD_no {D : Dk} (h : diskB D = false) (nm : ByteArray) : readD D nm = (⟨#[]⟩, false) := by unfold readD; rw [h]; rfl
theorem readD_yes {D : Dk} (h : diskB D = true) (nm : ByteArray) : readD D nm = (dataL D.1 nm, hasL D.1 nm) := by unfold readD; rw [h]; rfl

set_option maxRecDepth 100000 in
set_option maxHeartbeats 1000000 in
theorem specRead_any {A1 A2 A3 : Option Addr} {n1 n2 n3 c1 c2 c3 : Nat} {L1 L2 : List Fl} {O : List Dp} (hb : DkB n1 n2 n3 L1 L2 O) (nm : ByteArray) (w : World) (H : DiskAt w w.heap.size A1 A2 A3 L1 L2 O) :
    Calls Try.prog 18 #[.agg #[.slice A1 n1 c1, .slice A2 n2 c2, .slice A3 n3 c3], .string nm] w fun e w' => e = .returned (.tuple #[.string (readD (L1, L2, O) nm).1, .bool (readD (L1, L2, O) nm).2]) ∧ Bl w w' := by
  have KH := Lib.hid H
  have KB := Lib.hid hb
  clear H hb
  by_cases hd : diskB (L1, L2, O) = true
  · have HD := Lib.hid hd
    have HR := Lib.hid (readD_yes hd nm)
    obtain ⟨f1, -, -⟩ := files_parts (disk_live hd)
    simp only at f1
    have hn1 : n1 ≤ 60 := by have := KB.out.l1; omega
    clear hd
    go_enter Try.func18, Try.ntmps18
    go_wp2_with fail
    refine (specOk_dk KB.out _ (KH.out.bl (by repeat' (first | exact Bl.refl _ | with_reducible assumption | with_reducible refine Bl.drew_ ?_ | with_reducible refine Bl.drewN_ ?_ _ | with_reducible refine Bl.alloc_ ?_ _ | with_reducible refine Bl.trans_ ?_ (by assumption) | with_reducible refine Bl.trans_ ?_ (And.left (by assumption)))))).mono ?_
    rintro e w1 ⟨rfl, hb1⟩
    obtain ⟨q0, q1, q2⟩ := box3 hb1
    have X1 := Lib.hid hb1
    have B1 := Lib.hid ((Bl.alloc_ (Bl.refl w) _).trans_ hb1)
    rw [HD.out]
    clear hb1
    go_wp2_with fail
    refine (l15At_any A1 n1 c1 L1 KB.out.l1 nm _ (by omega) (KH.out.f1.bl B1.out)).mono ?_
    rintro e w2 ⟨⟨i, rfl, hi⟩, hb2⟩
    have B2 := Lib.hid (B1.out.trans_ hb2)
    clear q0 q1 q2
    obtain ⟨q0, q1, q2⟩ := box3 (X1.out.trans_ hb2)
    clear hb2
    rcases hi with ⟨k, rfl, hk, hkn, hkd, hh⟩ | ⟨rfl, hh⟩
    · obtain ⟨g1, o1, rfl, hg1, hc1⟩ := KH.out.f1.cell (by omega)
      obtain ⟨-, p2⟩ := hc1 k hk
      rw [← (bcell B2.out).1 _ _ hg1, ← hkd] at p2
      obtain ⟨x, hx⟩ : ∃ x, x = dataL L1 nm := ⟨_, rfl⟩
      rw [← hx] at p2
      have HX := Lib.hid hx
      have HH := Lib.hid hh
      have i0 : (0 : Int) ≤ (k : Int) := by omega
      have i1 : (k : Int) < (n1 : Int) := by have := KB.out.l1; omega
      clear hc1 hkn hkd hx hh
      go_wp2
      refine bodyPost_ret (v := .tuple #[.string x, .bool true]) (by simp [results, Try.results18, go_sem]) rfl ⟨by rw [HR.out, HX.out]; simp only; rw [HH.out], B2.out⟩
    · have HH := Lib.hid hh
      have HE := Lib.hid (data_none hh)
      clear hh
      go_wp2
      refine bodyPost_ret (v := .tuple #[.string ⟨#[]⟩, .bool false]) (by simp [results, Try.results18, go_sem]) rfl ⟨by rw [HR.out]; simp only; rw [HH.out, HE.out], B2.out⟩
  · have hd' : diskB (L1, L2, O) = false := by simpa using hd
    have HR := Lib.hid (readD_no hd' nm)
    have HD := Lib.hid hd'
    clear hd hd'
    go_enter Try.func18, Try.ntmps18
    go_wp2_with fail
    refine (specOk_dk KB.out _ (KH.out.bl (by repeat' (first | exact Bl.refl _ | with_reducible assumption | with_reducible refine Bl.drew_ ?_ | with_reducible refine Bl.drewN_ ?_ _ | with_reducible refine Bl.alloc_ ?_ _ | with_reducible refine Bl.trans_ ?_ (by assumption) | with_reducible refine Bl.trans_ ?_ (And.left (by assumption)))))).mono ?_
    rintro e w1 ⟨rfl, hb1⟩
    have B1 := Lib.hid ((Bl.alloc_ (Bl.refl w) _).trans_ hb1)
    rw [HD.out]
    clear hb1
    go_wp2
    refine bodyPost_ret (v := .tuple #[.string ⟨#[]⟩, .bool false]) (by simp [results, Try.results18, go_sem]) rfl ⟨by rw [HR.out], B1.out⟩

set_option maxRecDepth 100000 in
set_option maxHeartbeats 1000000 in
theorem implRead_any {A1 A2 A3 : Option Addr} {n1 n2 n3 c1 c2 c3 : Nat} {L1 L2 : List Fl} {O : List Dp} (hb : DkB n1 n2 n3 L1 L2 O) (nm : ByteArray) (w : World) (H : DiskAt w w.heap.size A1 A2 A3 L1 L2 O) :
    Calls Try.prog 19 #[.agg #[.slice A1 n1 c1, .slice A2 n2 c2, .slice A3 n3 c3], .string nm] w fun e w' => e = .returned (.tuple #[.string (readD (L1, L2, O) nm).1, .bool (readD (L1, L2, O) nm).2]) ∧ Bl w w' := by
  have KH := Lib.hid H
  have KB := Lib.hid hb
  clear H hb
  by_cases hd : diskB (L1, L2, O) = true
  · have HD := Lib.hid hd
    have HR := Lib.hid (readD_yes hd nm)
    obtain ⟨f1, -, f3⟩ := files_parts (disk_live hd)
    have SO := Lib.hid (ord_sorted f3)
    simp only at f1
    have hn1 : n1 ≤ 60 := by have := KB.out.l1; omega
    clear hd f3
    go_enter Try.func19, Try.ntmps19
    go_wp2_with fail
    refine (implOk_dk KB.out _ (KH.out.bl (by repeat' (first | exact Bl.refl _ | with_reducible assumption | with_reducible refine Bl.drew_ ?_ | with_reducible refine Bl.drewN_ ?_ _ | with_reducible refine Bl.alloc_ ?_ _ | with_reducible refine Bl.trans_ ?_ (by assumption) | with_reducible refine Bl.trans_ ?_ (And.left (by assumption)))))).mono ?_
    rintro e w1 ⟨rfl, hb1⟩
    obtain ⟨q0, q1, q2⟩ := box3 hb1
    have B1 := Lib.hid ((Bl.alloc_ (Bl.refl w) _).trans_ hb1)
    rw [HD.out]
    clear hb1
    go_wp2_with fail
    refine (dataOf_any nm A1 n1 c1 L1 KB.out.l1 _ (by omega) SO.out (KH.out.f1.bl B1.out)).mono ?_
    rintro e w2 ⟨rfl, hb2⟩
    have B2 := Lib.hid (B1.out.trans_ hb2)
    obtain ⟨x, hx⟩ : ∃ x, x = dataL L1 nm := ⟨_, rfl⟩
    obtain ⟨y, hy⟩ : ∃ y, y = hasL L1 nm := ⟨_, rfl⟩
    rw [← hx, ← hy]
    have HX := Lib.hid hx
    have HY := Lib.hid hy
    clear hx hy hb2
    go_wp2
    refine bodyPost_ret (v := .tuple #[.string x, .bool y]) (by simp [results, Try.results19, go_sem]) rfl ⟨by rw [HR.out, HX.out, HY.out], B2.out⟩
  · have hd' : diskB (L1, L2, O) = false := by simpa using hd
    have HR := Lib.hid (readD_no hd' nm)
    have HD := Lib.hid hd'
    clear hd hd'
    go_enter Try.func19, Try.ntmps19
    go_wp2_with fail
    refine (implOk_dk KB.out _ (KH.out.bl (by repeat' (first | exact Bl.refl _ | with_reducible assumption | with_reducible refine Bl.drew_ ?_ | with_reducible refine Bl.drewN_ ?_ _ | with_reducible refine Bl.alloc_ ?_ _ | with_reducible refine Bl.trans_ ?_ (by assumption) | with_reducible refine Bl.trans_ ?_ (And.left (by assumption)))))).mono ?_
    rintro e w1 ⟨rfl, hb1⟩
    have B1 := Lib.hid ((Bl.alloc_ (Bl.refl w) _).trans_ hb1)
    rw [HD.out]
    clear hb1
    go_wp2
    refine bodyPost_ret (v := .tuple #[.string ⟨#[]⟩, .bool false]) (by simp [results, Try.results19, go_sem]) rfl ⟨by rw [HR.out], B1.out⟩

end Go.Proofs.Ytipmjgciaalmbaa
