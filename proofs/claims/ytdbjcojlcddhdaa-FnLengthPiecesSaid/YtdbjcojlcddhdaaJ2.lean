/-
  What is proved here: the place of an id on both sides; a copy of items as a heap of one's own; push. No conditions beyond those that each theorem states.
-/
import Derived.Test.YtdbjcojlcddhdaaI9
import Derived.Test.YtdbjcojlcddhdaaW2
set_option linter.unusedSimpArgs false
set_option linter.unusedVariables false
namespace Go.Proofs.Ytdbjcojlcddhdaa
open Go.RowKit

set_option maxHeartbeats 1000000 in
theorem placeOfId_any (A : Option Addr) (n c : Nat) (L : List It) (id : Int) (hn : n = L.length) (w : World) (hm : n ≤ 1048576) (H1 : ItemsAt w w.heap.size A L) :
    Calls Try.prog 81 #[.slice A n c, .int .i64 id] w fun e w' => e = .returned (.int .i64 (placeI L id)) ∧ Bl w w' := by
  have K1 := Lib.hid H1
  have HN := Lib.hid hn
  clear H1 hn
  go_enter Try.func81, Try.ntmps81
  go_wp2
  go_loopw [9] (fun i wr => ∃ k : Nat, k ≤ n ∧ i = .int .i64 k ∧ Bl w wr ∧ ∀ j (hj : j < L.length), j < k → (L[j].2 == id) = false) (fun i _ => n - (intOf i).toNat)
  case atStart => exact ⟨0, by omega, rfl, Bl.refl _, fun j _ h => absurd h (by omega)⟩
  case round =>
    obtain ⟨k, hk, rfl, hbl, hno⟩ := hrel
    have NO := Lib.hid hno
    clear hno
    by_cases hlt : k < n
    · have hkl : k < L.length := by have := HN.out; omega
      obtain ⟨g1, o1, rfl, hg1, hc1⟩ := K1.out.cell (by omega)
      obtain ⟨p1, p2⟩ := hc1 k hkl
      rw [← (bcell hbl).1 _ _ hg1] at p1 p2
      clear hc1
      generalize hx : L[k].1 = x at p1
      generalize hy : L[k].2 = y at p2
      have HY := Lib.hid hy
      clear hx hy
      by_cases hyi : (y == id) = true
      · go_wp2
        go_ret
        exact ⟨ret_int (placeI_at hkl (by rw [HY.out]; exact hyi) (fun j hj => NO.out j (by omega) hj)).symm, hbl.alloc_ _⟩
      · have hyi' : (y == id) = false := by simpa using hyi
        clear hyi
        go_wp2
        go_roundw
        case rel =>
          refine ⟨k + 1, by omega, by go_num, hbl.alloc_ _, fun j hj hjk => ?_⟩
          rcases Nat.lt_or_ge j k with h | h
          · exact NO.out j hj h
          · obtain rfl : j = k := by omega
            rw [HY.out]
            exact hyi'
        case measure => simp [intOf]; omega
    · go_wp2
      go_ret
      exact ⟨ret_int (placeI_none (fun j hj => NO.out j hj (by have := HN.out; omega))).symm, hbl⟩

-- (l2At_any left out)

theorem one2 (L : List It) : ∀ u ∈ cs2 L, u.oneCell' = true := by
  induction L with
  | nil => intro u hu; simp [cs2] at hu
  | cons a l ih =>
    intro u hu
    simp only [cs2, List.mem_cons] at hu
    rcases hu with rfl | rfl | hu
    · rfl
    · rfl
    · exact ih u hu
theorem ItemsAt.reads {w : World} {B n : Nat} {A : Option Addr} {L : List It} (h : ItemsAt w B A L) (hn : n = L.length) : Reads w B 2 A n (cs2 L) :=
  reads_of_cells h (by rw [cs2_length, hn]) (by decide)
theorem new2 (w : World) (x y : Value) (t : TypeId) : ∀ j u, [x, y][j]? = some u → (w.alloc (.cells #[x, y] t)).cell? ((⟨w.heap.size, 0, none⟩ : Addr).add j) = some u := by
  intro j u hj
  match j, hj with
  | 0, hj => simp at hj; subst hj; simp [Addr.add, go_sem]
  | 1, hj => simp at hj; subst hj; simp [Addr.add, go_sem]
  | (j + 2), hj => simp at hj

/-- A heap of one's own: its box, and its list. -/
def HeapIn (w : World) (B hb : Nat) (v : Value) (L : List It) : Prop := HBox w hb v ∧ OwnI w B v L ∧ B ≤ hb ∧ v.ownBlock ≠ some hb
/-- What a copy leaves. -/
def CopyPost (L : List It) (w : World) (e : Ending) (w' : World) : Prop := ∃ hb v, e = .returned (.pointer (some ⟨hb, 0, none⟩)) ∧ HeapIn w' w.heap.size hb v L ∧ Bl w w'

set_option maxHeartbeats 1000000 in
theorem copied_any (A : Option Addr) (n c : Nat) (L : List It) (hn : n = L.length) (w : World) (hm : n ≤ 1048576) (H1 : ItemsAt w w.heap.size A L) :
    Calls Try.prog 82 #[.slice A n c] w (CopyPost L w) := by
  obtain ⟨i0, hi, hz0, hz1, hz2⟩ := info_parts infoItem
  have I0 := Lib.hid hi
  have I1 := Lib.hid hz0
  have I2 := Lib.hid hz1
  have I3 := Lib.hid hz2
  have K1 := Lib.hid (H1.reads hn)
  have HN := Lib.hid hn
  clear H1 hn hi hz0 hz1 hz2
  go_enter Try.func82, Try.ntmps82
  go_wp2_with (at_builtin; refine wpList_append_any _ rfl _ _ _ rfl w.heap.size 58 i0 _ 2 16 Try.underlying54 I0.out I1.out I2.out I3.out rfl (by decide) (.slice none 0 0) 0 [] rfl (World.ownsRow_nil _ _ _ _) w.heap.size A n c (cs2 L) rfl K1.out (one2 L) ?c3 ?c4 (Nat.le_refl _) ?_)
  case c3 => unfold maxLen; omega
  case c4 => omega
  intro v w1 hown hgr hblk
  try simp only [Nat.zero_add, List.nil_append] at hown
  have O := Lib.hid (show OwnI w1 w.heap.size v L from by unfold OwnI Owns; rw [← HN.out]; exact hown)
  have B1 : Bl w w1 := (Bl.refl w).grown_ hgr (fun g hg => by cases hg)
  have LT := Lib.hid (Owns.lt O.out)
  clear hown hgr hblk
  have hs := B1.size
  obtain ⟨A', c', rfl, -⟩ := Owns.shape O.out
  go_wp2
  go_ret
  exact ⟨_, _, rfl, ⟨⟨by simp [go_sem], by simp [go_sem], by simp [go_sem]⟩, Owns.bl O.out ((Bl.refl _).alloc_ _), by omega, fun h => by have := (LT.out _ h).2; omega⟩, B1.alloc_ _⟩

end Go.Proofs.Ytdbjcojlcddhdaa
