/-
  What is proved here: items that are copied, marked, and held against their marks. No conditions beyond those that each theorem states.
-/
import Derived.Test.YtelgjfflhcmljaaI1
set_option linter.unusedSimpArgs false
set_option linter.unusedVariables false
namespace Go.Proofs.Ytelgjfflhcmljaa
open Go.RowKit

/-- The cells of n new items. -/
def mk2 (n : Nat) : Array Value := madeCells (Value.agg #[.int .i64 0, .int .i64 0]).cells (n * 2)
theorem size_mk2 (n : Nat) : (mk2 n).size = n * 2 := size_madeCells _ _
theorem make_items (n : Nat) (hn : n ≤ 1048576) (w : World) : (Instr.makeSlice 62 (.int .i64 (n : Int)) (.int .i64 (n : Int))).run Try.prog w = .ok (.slice (some ⟨w.heap.size, 0, none⟩) n n) (w.alloc (.cells (mk2 n) 116)) := by
  obtain ⟨i0, hi, hz0, hz1, hz2⟩ := info_parts infoItem
  have h := run_make_rowN (P := Try.prog) 62 116 i0 _ Try.underlying62 hi hz0 .i64 .i64 n n (Nat.le_refl _) (by rw [hz2]; omega) (by omega) w
  rw [hz1] at h
  exact h

/-- What a copy of items leaves: a row of its own. -/
def ItemsMade (n : Nat) (L : List It) (w : World) (e : Ending) (w' : World) : Prop :=
  ∃ g, e = .returned (.slice (some ⟨g, 0, none⟩) n n) ∧ OwnI w' w.heap.size (.slice (some ⟨g, 0, none⟩) n n) L ∧ Bl w w' ∧ w.heap.size < w'.heap.size

/-- A row whose first k items are those of L. -/
def Filled (w : World) (g n k : Nat) (L : List It) : Prop := ∃ cur : Array Value, w.heap[g]? = some (.cells cur 116 (0, 0)) ∧ cur.size = n * 2 ∧ ∀ j (h : j < k) (h' : j < L.length), cur[j * 2]? = some (.int .i64 L[j].1) ∧ cur[j * 2 + 1]? = some (.int .i64 L[j].2)
theorem Filled.cells {w : World} {g n k : Nat} {L : List It} (h : Filled w g n k L) : (∀ o, w.frozen? ⟨g, o, none⟩ = false) ∧ g < w.heap.size ∧ ∀ o, o < n * 2 → ∃ v, w.cell? ⟨g, o, none⟩ = some v := by
  obtain ⟨cur, hb, hs, _⟩ := h
  refine ⟨fun o => by simp [World.frozen?, hb], (Array.getElem?_eq_some_iff.1 hb).1, fun o ho => ⟨cur[o]'(by omega), ?_⟩⟩
  simp [World.cell?, hb, show o < cur.size from by omega]
theorem Filled.step {w : World} {g n k : Nat} {L : List It} (h : Filled w g n k L) (hk : k < n) (hl : k < L.length) {x y : Int} (hx : L[k].1 = x) (hy : L[k].2 = y) :
    Filled ((w.setCell ⟨g, k * 2, none⟩ (.int .i64 x)).setCell ⟨g, k * 2 + 1, none⟩ (.int .i64 y)) g n (k + 1) L := by
  obtain ⟨cur, hb, hs, hf⟩ := h
  refine ⟨(cur.setIfInBounds (k * 2) (.int .i64 x)).setIfInBounds (k * 2 + 1) (.int .i64 y), heap_setCell_same _ g _ _ _ _ (heap_setCell_same w g _ cur _ _ hb), by simpa using hs, fun j hj hj' => ?_⟩
  rcases Nat.lt_or_ge j k with h | h
  · obtain ⟨a, b⟩ := hf j h hj'
    refine ⟨?_, ?_⟩
    · rw [Array.getElem?_setIfInBounds_ne (by omega), Array.getElem?_setIfInBounds_ne (by omega)]; exact a
    · rw [Array.getElem?_setIfInBounds_ne (by omega), Array.getElem?_setIfInBounds_ne (by omega)]; exact b
  · obtain rfl : j = k := by omega
    refine ⟨?_, ?_⟩
    · rw [Array.getElem?_setIfInBounds_ne (by omega), Array.getElem?_setIfInBounds_self_of_lt (by omega), hx]
    · rw [Array.getElem?_setIfInBounds_self_of_lt (by simp; omega), hy]
theorem list_ext2 {c : List Value} {L : List It} (hs : c.length = L.length * 2) (h : ∀ j (h' : j < L.length), c[j * 2]? = some (.int .i64 L[j].1) ∧ c[j * 2 + 1]? = some (.int .i64 L[j].2)) : c = cs2 L := by
  apply List.ext_getElem?
  intro i
  rcases Nat.lt_or_ge i (L.length * 2) with hi | hi
  · have hj : i / 2 < L.length := by omega
    obtain ⟨a, b⟩ := h (i / 2) hj
    obtain ⟨x, y⟩ := cs2_at L (i / 2) hj
    rcases Nat.mod_two_eq_zero_or_one i with hm | hm
    · rw [show i = i / 2 * 2 from by omega, a, x]
    · rw [show i = i / 2 * 2 + 1 from by omega, b, y]
  · rw [List.getElem?_eq_none (by omega), List.getElem?_eq_none (by rw [cs2_length]; omega)]
theorem Filled.own {w : World} {B g n : Nat} {L : List It} (h : Filled w g n n L) (hn : n = L.length) (hm : n ≤ 1048576) (hB : B ≤ g) : OwnI w B (.slice (some ⟨g, 0, none⟩) n n) L := by
  obtain ⟨cur, hb, hs, hf⟩ := h
  subst hn
  refine ⟨by rw [cs2_length], .inr ⟨g, L.length, cur, rfl, hB, hb, Nat.le_refl _, by unfold maxLen; omega, hs, ?_⟩⟩
  rw [List.take_of_length_le (by simp; omega)]
  exact list_ext2 (by simpa using hs) fun j hj => by
    obtain ⟨a, b⟩ := hf j hj hj
    exact ⟨by simpa using a, by simpa using b⟩

-- (toItemS_any left out)

set_option maxHeartbeats 1000000 in
theorem markItemS_any (A : Option Addr) (n c : Nat) (k : Int) (w : World) (hn : n ≤ 1048576) (hk0 : 0 ≤ k) (hk1 : k ≤ 1099511627776) (HR : ItemsW w A n) :
    Calls Try.prog 51 #[.slice A n c, .int .i64 k] w (MarkRows 116 2 A n k w) := by
  have R := Lib.hid HR
  clear HR
  rcases Nat.eq_zero_or_pos n with rfl | hpos
  · go_enter Try.func51, Try.ntmps51
    go_wp2
    refine wp_loop_rounds 1 ?_
    rw [rounds_succ]
    go_wp2
    go_ret
    exact ⟨ret_int (by simp), fun h => absurd h (by omega), World.grownBy.refl w _, R.out⟩
  · obtain ⟨g, off, m, f, rfl, hm, hr⟩ := R.out hpos
    have hg := hr.lt
    have R0 := Lib.hid hr
    clear hr R
    go_enter Try.func51, Try.ntmps51
    go_wp2
    go_loopw [1, 5] (fun q i wr => ∃ (j : Nat) (f : Nat → Value), j ≤ n ∧ i = .int .i64 j ∧ q = .int .i64 (k + 2 * j) ∧ wr.rowIs g 116 m f ∧ w.grownBy wr (some g) ∧ wr.heap.size = w.heap.size ∧
      ∀ t, t < j → f (off + t * 2) = .int .i64 (k + 2 * t) ∧ f (off + t * 2 + 1) = .int .i64 (k + 2 * t + 1)) (fun _ i _ => n - (intOf i).toNat)
    case atStart => exact ⟨0, f, by omega, rfl, by simp, R0.out, World.grownBy.refl w _, rfl, fun t h => absurd h (by omega)⟩
    case round =>
      obtain ⟨j, f', hj, rfl, rfl, hr, hgr, hsz, hf⟩ := hrel
      have R1 := Lib.hid hr
      have G := Lib.hid hgr
      have Z := Lib.hid hsz
      have F := Lib.hid hf
      clear hr hgr hsz hf
      by_cases hlt : j < n
      · have z1 := R1.out.cell (i := off + j * 2) (by omega)
        have z2 := R1.out.cell (i := off + j * 2 + 1) (by omega)
        have y1 := R1.out.frozen (off + j * 2)
        have y2 := R1.out.frozen (off + j * 2 + 1)
        go_wp2
        go_roundw
        case rel =>
          refine ⟨j + 1, _, by omega, by go_num, by go_num, (R1.out.set (off + j * 2) _).set (off + j * 2 + 1) _, grown_set (grown_set G.out (.inl rfl) _) (.inl rfl) _, by rw [World.size_setCell, World.size_setCell]; exact Z.out, fun t ht => ?_⟩
          rcases Nat.lt_or_ge t j with h | h
          · rw [if_neg (by omega), if_neg (by omega), if_neg (by omega), if_neg (by omega)]
            exact F.out t h
          · have e : t = j := by omega
            subst e
            exact ⟨by rw [if_neg (by omega), if_pos rfl], by rw [if_pos rfl]⟩
        case measure => simp [intOf]; omega
      · go_wp2
        go_ret
        have e : j = n := by omega
        subst e
        refine ⟨ret_int (by omega), fun _ => ⟨g, off, rfl, by rw [Z.out]; exact hg, fun t ht => ?_⟩, G.out, fun _ => ⟨g, off, m, f', rfl, hm, R1.out⟩⟩
        obtain ⟨e1, e2⟩ := F.out (t / 2) (by omega)
        rw [R1.out.cell (i := off + t) (by omega)]
        rcases Nat.mod_two_eq_zero_or_one t with ht2 | ht2
        · rw [show off + t = off + t / 2 * 2 from by omega, e1]; congr 2; omega
        · rw [show off + t = off + t / 2 * 2 + 1 from by omega, e2]; congr 2; omega

set_option maxHeartbeats 1000000 in
theorem heldItemS_any (A : Option Addr) (n c : Nat) (k : Int) (w : World) (hn : n ≤ 1048576) (hk0 : 0 ≤ k) (hk1 : k ≤ 1099511627776) (HM : Marks w A (n * 2) k) :
    Calls Try.prog 52 #[.slice A n c, .int .i64 k] w fun e w' => e = .returned (.int .i64 (k + (n * 2 : Nat))) ∧ w = w' := by
  have M := Lib.hid HM
  clear HM
  rcases Nat.eq_zero_or_pos n with rfl | hpos
  · go_enter Try.func52, Try.ntmps52
    go_wp2
    refine wp_loop_rounds 1 ?_
    rw [rounds_succ]
    go_wp2
    go_ret
    exact ⟨ret_int (by simp), rfl⟩
  · obtain ⟨g, off, rfl, hg, hc⟩ := M.out (by omega)
    have C := Lib.hid hc
    clear hc M
    go_enter Try.func52, Try.ntmps52
    go_wp2
    go_loop [1, 5] (fun q i => ∃ j : Nat, j ≤ n ∧ i = .int .i64 j ∧ q = .int .i64 (k + 2 * j)) (fun _ i => n - (intOf i).toNat)
    case atStart => exact ⟨0, by omega, rfl, by simp⟩
    case round =>
      obtain ⟨j, hj, rfl, rfl⟩ := hrel
      by_cases hlt : j < n
      · have z1 := C.out (j * 2) (by omega)
        have z2 := C.out (j * 2 + 1) (by omega)
        rw [show k + ((j * 2 : Nat) : Int) = k + 2 * j from by omega] at z1
        rw [← Nat.add_assoc, show k + ((j * 2 + 1 : Nat) : Int) = k + 2 * j + 1 from by omega] at z2
        have b1 : (k + 2 * (j : Int) != k + 2 * j) = false := by simp
        have b2 : (k + 2 * (j : Int) + 1 != k + 2 * j + 1) = false := by simp
        go_wp2
        go_round
        case rel => exact ⟨j + 1, by omega, by go_num, by go_num⟩
        case measure => simp [intOf]; omega
      · go_wp2
        go_ret
        have e : j = n := by omega
        subst e
        exact ⟨ret_int (by omega), rfl⟩

end Go.Proofs.Ytelgjfflhcmljaa
