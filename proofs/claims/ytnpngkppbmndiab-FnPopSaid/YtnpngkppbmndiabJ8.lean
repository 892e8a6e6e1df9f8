/-
  What is proved here: HeapLess, on both sides. No conditions beyond those that each theorem states.
-/
import Derived.Test.YtnpngkppbmndiabJ6
set_option linter.unusedSimpArgs false
set_option linter.unusedVariables false
namespace Go.Proofs.Ytnpngkppbmndiab
open Go.RowKit

theorem cs2_setKey : ∀ (l : List It) (k : Nat) (x : Int), k < l.length → cs2 (l.set k (x, (atI l k).2)) = (cs2 l).set (k * 2) (.int .i64 x)
  | [], _, _, h => absurd h (by simp)
  | a :: l, 0, x, _ => by simp [cs2, atI]
  | a :: l, k + 1, x, h => by
    have h' : k < l.length := by simpa using h
    have ih := cs2_setKey l k x h'
    have e : atI (a :: l) (k + 1) = atI l k := by simp [atI]
    rw [e, List.set_cons_succ, show (k + 1) * 2 = k * 2 + 1 + 1 from by omega]
    simp only [cs2, List.set_cons_succ]
    rw [ih]
theorem RowI.setKey {w : World} {g n c k : Nat} {L : List It} (h : RowI w g n c L) (hk : k < n) (x : Int) :
    RowI (w.setCell ⟨g, k * 2, none⟩ (.int .i64 x)) g n c (L.set k (x, (atI L k).2)) ∧ w.grownBy (w.setCell ⟨g, k * 2, none⟩ (.int .i64 x)) (some g) := by
  obtain ⟨h, rfl⟩ := h
  have h1 := Owns.stored (show Owns 33 2 w g (.slice (some ⟨g, 0, none⟩) L.length c) L.length (cs2 L) from h) (k * 2) (.int .i64 x)
  refine ⟨⟨?_, by simp⟩, h1.2⟩
  unfold OwnI
  rw [cs2_setKey _ _ _ hk, List.length_set]
  exact h1.1

/-- May the item of that id get that key? -/
def lessB (L : List It) (id key : Int) : Bool := heapI L && (decide (0 ≤ placeI L id) && decide (key ≤ (atI L (placeI L id).toNat).1))
def lessR (L : List It) (id key : Int) : List It := if lessB L id key = true then upI (L.set (placeI L id).toNat (key, (atI L (placeI L id).toNat).2)) (placeI L id).toNat else []
theorem lessR_len (L : List It) (id key : Int) : (lessR L id key).length ≤ L.length := by
  unfold lessR
  split
  · rw [upI_len, List.length_set]; exact Nat.le_refl _
  · simp
theorem lessB_no1 {L : List It} {id key : Int} (h : heapI L = false) : lessB L id key = false := by simp [lessB, h]
theorem lessB_no2 {L : List It} {id key : Int} (h : placeI L id = -1) : lessB L id key = false := by simp [lessB, h]
theorem lessB_no3 {L : List It} {id key : Int} {k : Nat} (h : placeI L id = k) (hk : (atI L k).1 < key) : lessB L id key = false := by
  simp [lessB, h]; intro _; omega
theorem lessB_yes {L : List It} {id key : Int} {k : Nat} (h0 : heapI L = true) (h : placeI L id = k) (hk : key ≤ (atI L k).1) : lessB L id key = true := by
  simp [lessB, h0, h, hk]
theorem lessR_yes {L : List It} {id key : Int} {k : Nat} (h0 : lessB L id key = true) (h : placeI L id = k) : lessR L id key = upI (L.set k (key, (atI L k).2)) k := by
  unfold lessR
  rw [if_pos h0, h]
  rfl
theorem ItemsOk.no {r : Bool} {R : List It} {w : World} {e : Ending} {w' : World} (h : r = false) (hR : r = false → R = []) (he : e = .returned (.tuple #[.slice none 0 0, .bool false])) (hb : Bl w w') : ItemsOk R r w e w' :=
  ⟨_, by rw [he, h], by rw [hR h]; exact Owns.nil_ _ _ _ _, hb⟩
theorem lessR_no {L : List It} {id key : Int} (h : lessB L id key = false) : lessR L id key = [] := if_neg (by rw [h]; simp)
theorem placeOfId_at (A : Option Addr) (n c : Nat) (L : List It) (id p : Int) (hp : placeI L id = p) (hn : n = L.length) (w : World) (hm : n ≤ 1048576) (H1 : ItemsAt w w.heap.size A L) :
    Calls Try.prog 43 #[.slice A n c, .int .i64 id] w fun e w' => e = .returned (.int .i64 p) ∧ Bl w w' := by
  subst hp
  exact placeOfId_any A n c L id hn w hm H1
theorem l2At_at (A : Option Addr) (n c : Nat) (L : List It) (id p : Int) (hp : placeI L id = p) (hn : n = L.length) (w : World) (hm : n ≤ 1048576) (H1 : ItemsAt w w.heap.size A L) :
    Calls Try.prog 41 #[.slice A n c, .int .i64 id] w fun e w' => e = .returned (.int .i64 p) ∧ Bl w w' := by
  subst hp
  exact l2At_any A n c L id hn w hm H1

set_option maxRecDepth 100000 in
set_option maxHeartbeats 1000000 in
theorem implHeapLess_any (A : Option Addr) (n c : Nat) (L : List It) (id key : Int) (hn : n = L.length) (w : World) (hm : n ≤ 1048576) (hwf : WfI L) (H1 : ItemsAt w w.heap.size A L) :
    Calls Try.prog 26 #[.slice A n c, .int .i64 id, .int .i64 key] w (ItemsOk (lessR L id key) (lessB L id key) w) := by
  have K1 := Lib.hid H1
  have HN := Lib.hid hn
  have HW := Lib.hid hwf
  clear H1 hn hwf
  cases hhb : heapI L with
  | false =>
    have HB := Lib.hid hhb
    clear hhb
    go_enter Try.func26, Try.ntmps26
    go_wp2_with fail
    refine (implHeapOk_any A n c L HN.out _ hm HW.out K1.out).mono ?_
    rintro e w1 ⟨rfl, hb1⟩
    rw [HB.out]
    go_wp2
    go_ret2
    exact ItemsOk.no (lessB_no1 HB.out) lessR_no rfl hb1
  | true =>
    have HB := Lib.hid hhb
    clear hhb
    rcases Int.lt_or_le (placeI L id) 0 with hneg | hpos
    · have HP := Lib.hid (show placeI L id = -1 from by have := placeI_ge L id; omega)
      clear hneg
      go_enter Try.func26, Try.ntmps26
      go_wp2_with fail
      refine (implHeapOk_any A n c L HN.out _ hm HW.out K1.out).mono ?_
      rintro e w1 ⟨rfl, hb1⟩
      rw [HB.out]
      go_wp2_with fail
      refine (placeOfId_at A n c L id (-1) HP.out HN.out _ hm (K1.out.bl hb1)).mono ?_
      rintro e w2 ⟨rfl, hb2⟩
      go_wp2
      go_ret2
      exact ItemsOk.no (lessB_no2 HP.out) lessR_no rfl (hb1.trans_ hb2)
    · obtain ⟨k, hk, hkl⟩ := placeI_lt hpos
      have HP := Lib.hid hk
      clear hk hpos
      have hkn : k < n := by have := HN.out; omega
      have i0 : (k : Int) < (n : Int) := by omega
      obtain ⟨g0, o0, rfl, hg0, hc0⟩ := K1.out.cellI (by omega)
      have a1 := (hc0 k hkl).1
      clear hc0
      generalize hx : (atI L k).1 = x at a1
      have X := Lib.hid hx
      clear hx
      by_cases hkey : x < key
      · go_enter Try.func26, Try.ntmps26
        go_wp2_with fail
        refine (implHeapOk_any _ n c L HN.out _ hm HW.out K1.out).mono ?_
        rintro e w1 ⟨rfl, hb1⟩
        rw [HB.out]
        go_wp2_with fail
        refine (placeOfId_at _ n c L id k HP.out HN.out _ hm (K1.out.bl hb1)).mono ?_
        rintro e w2 ⟨rfl, hb2⟩
        have hb2 := hb1.trans_ hb2
        rw [← (bcell hb2).1 _ _ hg0] at a1
        go_wp2
        go_ret2
        exact ItemsOk.no (lessB_no3 HP.out (by rw [X.out]; exact hkey)) lessR_no rfl hb2
      · have hkey' : decide (x < key) = false := by simp; omega
        have LB := Lib.hid (lessB_yes (key := key) HB.out HP.out (by rw [X.out]; omega))
        clear hkey
        go_enter Try.func26, Try.ntmps26
        go_wp2_with fail
        refine (implHeapOk_any _ n c L HN.out _ hm HW.out K1.out).mono ?_
        rintro e w1 ⟨rfl, hb1⟩
        rw [HB.out]
        go_wp2_with fail
        refine (placeOfId_at _ n c L id k HP.out HN.out _ hm (K1.out.bl hb1)).mono ?_
        rintro e w2 ⟨rfl, hb2⟩
        have hb2 := hb1.trans_ hb2
        rw [← (bcell hb2).1 _ _ hg0] at a1
        go_wp2_with fail
        refine (copied_any _ n c L HN.out _ hm (K1.out.bl hb2)).mono ?_
        rintro e w3 ⟨hb, v, rfl, hin, hb3⟩
        obtain ⟨A1, c1, rfl, -⟩ := Owns.shape hin.2.1
        rw [← HN.out] at hin
        obtain ⟨g, rfl, hBg, hR, hne⟩ := HeapIn.row (g := 0) hin HN.out (by omega)
        have H3 := Lib.hid hin.1
        have hBb := hin.2.2.1
        obtain ⟨h0, h1, h2⟩ := hin.1
        obtain ⟨hfz, hgl, hcl⟩ := hR.cells
        have b1 := (hcl k hkl).1
        have f1 := hfz (k * 2)
        obtain ⟨r1, r2⟩ := hR.setKey hkn key
        have R3 := Lib.hid r1
        have G3 := Lib.hid r2
        have B3 := Lib.hid (hb2.trans_ hb3)
        have s2 := hb2.size
        clear hin hR hfz hcl r1 r2 hb3 a1
        go_wp2_with fail
        have H4 := Lib.hid (H3.out.grown_ G3.out (by simp; exact hne))
        refine (rise_any hb g n c1 k _ _ hm R3.out H4.out hne hkn).mono ?_
        rintro e w4 ⟨rfl, hR4, hG4⟩
        have R4 := Lib.hid hR4
        have H5 := Lib.hid (H4.out.grown_ hG4 (by simp; exact hne))
        have B4 := Lib.hid (Bl.grown_ (Bl.grown_ B3.out G3.out (fun i h => by injection h with h; omega)) hG4 (fun i h => by injection h with h; omega))
        clear hR4 hG4 h0 h1 h2 b1 f1
        obtain ⟨h0, h1, h2⟩ := H5.out
        go_wp2
        go_ret2
        refine ⟨_, by rw [LB.out]; rfl, ?_, B4.out⟩
        rw [lessR_yes LB.out HP.out]
        have h5 := R4.out.1
        have hl := R4.out.2
        unfold OwnI at h5 ⊢
        rw [← hl] at h5 ⊢
        exact Owns.at_base h5 (by omega)

set_option maxRecDepth 100000 in
set_option maxHeartbeats 1000000 in
theorem specHeapLess_any (A : Option Addr) (n c : Nat) (L : List It) (id key : Int) (hn : n = L.length) (w : World) (hm : n ≤ 1048576) (H1 : ItemsAt w w.heap.size A L) :
    Calls Try.prog 25 #[.slice A n c, .int .i64 id, .int .i64 key] w (ItemsOk (lessR L id key) (lessB L id key) w) := by
  obtain ⟨i0, hi, hz0, hz1, hz2⟩ := info_parts infoItem
  have I0 := Lib.hid hi
  have I1 := Lib.hid hz0
  have I2 := Lib.hid hz1
  have I3 := Lib.hid hz2
  have K1 := Lib.hid H1
  have HN := Lib.hid hn
  clear H1 hn hi hz0 hz1 hz2
  obtain ⟨p, hp⟩ : ∃ p, placeI L id = p := ⟨_, rfl⟩
  have PP := Lib.hid hp
  have hge : -1 ≤ p := by rw [← hp]; exact placeI_ge L id
  clear hp
  cases hhb : heapI L with
  | false =>
    have HB := Lib.hid hhb
    clear hhb
    go_enter Try.func25, Try.ntmps25
    go_wp2_with fail
    refine (l2At_at A n c L id p PP.out HN.out _ hm K1.out).mono ?_
    rintro e w1 ⟨rfl, hb1⟩
    go_wp2_with fail
    refine (specHeapOk_any A n c L HN.out _ hm (K1.out.bl hb1)).mono ?_
    rintro e w2 ⟨rfl, hb2⟩
    rw [HB.out]
    go_wp2
    go_ret2
    exact ItemsOk.no (lessB_no1 HB.out) lessR_no rfl (hb1.trans_ hb2)
  | true =>
    have HB := Lib.hid hhb
    clear hhb
    rcases Int.lt_or_le p 0 with hneg | hpos
    · obtain rfl : p = -1 := by omega
      clear hneg hge
      go_enter Try.func25, Try.ntmps25
      go_wp2_with fail
      refine (l2At_at A n c L id (-1) PP.out HN.out _ hm K1.out).mono ?_
      rintro e w1 ⟨rfl, hb1⟩
      go_wp2_with fail
      refine (specHeapOk_any A n c L HN.out _ hm (K1.out.bl hb1)).mono ?_
      rintro e w2 ⟨rfl, hb2⟩
      rw [HB.out]
      go_wp2
      go_ret2
      exact ItemsOk.no (lessB_no2 PP.out) lessR_no rfl (hb1.trans_ hb2)
    · obtain ⟨k, hk, hkl⟩ := placeI_lt (by rw [PP.out]; exact hpos)
      obtain rfl : p = (k : Int) := by rw [← PP.out]; exact hk
      clear hk hpos hge
      have hkn : k < n := by have := HN.out; omega
      have i0' : (k : Int) < (n : Int) := by omega
      obtain ⟨g0, o0, rfl, hg0, hc0⟩ := K1.out.cellI (by omega)
      have a1 := (hc0 k hkl).1
      clear hc0
      generalize hx : (atI L k).1 = x at a1
      have X := Lib.hid hx
      clear hx
      by_cases hkey : x < key
      · go_enter Try.func25, Try.ntmps25
        go_wp2_with fail
        refine (l2At_at _ n c L id k PP.out HN.out _ hm K1.out).mono ?_
        rintro e w1 ⟨rfl, hb1⟩
        go_wp2_with fail
        refine (specHeapOk_any _ n c L HN.out _ hm (K1.out.bl hb1)).mono ?_
        rintro e w2 ⟨rfl, hb2⟩
        rw [HB.out]
        have hb2 := hb1.trans_ hb2
        rw [← (bcell hb2).1 _ _ hg0] at a1
        go_wp2
        go_ret2
        exact ItemsOk.no (lessB_no3 PP.out (by rw [X.out]; exact hkey)) lessR_no rfl hb2
      · have hkey' : decide (x < key) = false := by simp; omega
        have LB := Lib.hid (lessB_yes (key := key) HB.out PP.out (by rw [X.out]; omega))
        clear hkey
        go_enter Try.func25, Try.ntmps25
        go_wp2_with fail
        refine (l2At_at _ n c L id k PP.out HN.out _ hm K1.out).mono ?_
        rintro e w1 ⟨rfl, hb1⟩
        go_wp2_with fail
        refine (specHeapOk_any _ n c L HN.out _ hm (K1.out.bl hb1)).mono ?_
        rintro e w2 ⟨rfl, hb2⟩
        rw [HB.out]
        have hb2 := hb1.trans_ hb2
        rw [← (bcell hb2).1 _ _ hg0] at a1
        have START := Lib.hid (start_at w.heap.size w2 hb2.size)
        have s2 := hb2.size
        go_wp2_with (at_builtin; refine wpList_append_any _ rfl (.tmp 29) (.tmp 30) _ rfl w.heap.size 33 i0 _ 2 16 Try.underlying25 I0.out I1.out I2.out I3.out rfl (by decide) _ 0 [] rfl (START.out) (w2.heap.size) (some ⟨g0, o0, none⟩) n c (cs2 L) rfl ?cr (one2 L) ?c3 ?c4 ?c5 ?_)
        case cr => exact ((ItemsAt.bl' K1.out (Nat.le_refl _) (hb2.trans_ ((Bl.refl w2).alloc_ _))).reads HN.out).more hb2.size
        case c3 => unfold maxLen; omega
        case c4 => omega
        case c5 => simp <;> omega
        intro v w3 hown hgr hblk
        try simp only [Nat.zero_add, List.nil_append] at hown
        have O := Lib.hid (show Owns 33 2 w3 w.heap.size v n (cs2 L) from hown)
        have B1 : Bl w w3 := (hb2.alloc_ _).grown_ hgr (fun g hg => by simp [Value.ownBlock] at hg; omega)
        clear hown hgr hblk
        obtain ⟨A1, c1, rfl, -, -, -, hsome⟩ := Owns.shape O.out
        obtain ⟨g, rfl, hBg, hgl, -⟩ := hsome (by omega)
        have R := Lib.hid (show RowI w3 g n c1 L from ⟨by unfold OwnI; rw [← HN.out]; exact Owns.self_ O.out, HN.out⟩)
        clear hsome
        obtain ⟨hfz, -, hcl⟩ := R.out.cells
        have b1 := (hcl k hkl).1
        have f1 := hfz (k * 2)
        obtain ⟨r1, r2⟩ := R.out.setKey hkn key
        have R3 := Lib.hid r1
        have G3 := Lib.hid r2
        clear hfz hcl r1 r2 a1
        go_wp2_with fail
        refine (l2Up_any g n c1 k _ _ hm R3.out hkn).mono ?_
        rintro e w4 ⟨rfl, hR4, hG4⟩
        have R4 := Lib.hid hR4
        have B4 := Lib.hid (Bl.grown_ (Bl.grown_ B1 G3.out (fun i h => by injection h with h; omega)) hG4 (fun i h => by injection h with h; omega))
        clear hR4 hG4 b1 f1
        go_wp2
        go_ret2
        refine ⟨_, by rw [LB.out]; rfl, ?_, B4.out⟩
        rw [lessR_yes LB.out PP.out]
        have h5 := R4.out.1
        have hl := R4.out.2
        unfold OwnI at h5 ⊢
        rw [← hl] at h5 ⊢
        exact Owns.at_base h5 hBg

end Go.Proofs.Ytnpngkppbmndiab
