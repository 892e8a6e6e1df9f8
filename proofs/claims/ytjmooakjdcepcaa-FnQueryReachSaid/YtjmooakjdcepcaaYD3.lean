/-
  What is proved here: the reader of a code hands out small numbers, numbers near bounds and now and then outside of them, and turns nothing but itself; bytes that come in; a reader of a code is opened; the reader of a code hands out numbers now and then outside of bounds, and nodes; the reader of a code draws a graph in new memory; graphs and nodes that are drawn by a code; graphs, and graphs with a node, that are drawn by a code: for reaches, centers, spreads and what is reached; a graph that is turned has the same reaches; whatever bytes come in read as bytes. No conditions; the laws' small functions that hold lists and graphs against each other, and ask for nodes; the same, where behind the last operation of the region the condition need not be shown. No conditions beyond those that each theorem states.
-/
import Derived.Test.YtjmooakjdcepcaaW2
import Derived.OpenShut
import Derived.IntWalk
import Derived.Test.YtjmooakjdcepcaaTW
import Derived.Test.YtjmooakjdcepcaaYD1
import Derived.Test.YtjmooakjdcepcaaYA
import Derived.Test.YtjmooakjdcepcaaZ0
set_option linter.unusedSimpArgs false
set_option linter.unusedVariables false
namespace Go.Proofs.Ytjmooakjdcepcaa
open Go.RowKit

/-- A reader at block rd, at place p of a code. -/
def Rd (w : World) (rd : Nat) (A : Option Addr) (n c p : Nat) : Prop :=
  w.rowIs rd 95 2 (fun i => if i = 0 then .slice A n c else .int .i64 p) ∧ p ≤ n ∧
    (0 < n → ∃ g off, A = some ⟨g, off, none⟩ ∧ g ≠ rd ∧ g < w.heap.size ∧ ∀ j, j < n → ∃ b : Int, w.cell? ⟨g, off + j, none⟩ = some (.int .u8 b) ∧ 0 ≤ b ∧ b ≤ 255)
/-- A reader, wherever it stands. -/
def RdAny (w : World) (rd : Nat) (A : Option Addr) (n c : Nat) : Prop := ∃ p, Rd w rd A n c p
theorem Rd.bl {w w' : World} {rd : Nat} {A : Option Addr} {n c p : Nat} (h : Rd w rd A n c p) (hb : Bl w w') : Rd w' rd A n c p := by
  obtain ⟨hr, hp, hc⟩ := h
  refine ⟨hr.of_block (Below.block (show Below w.heap.size w w' from hb) rd hr.lt), hp, fun h0 => ?_⟩
  obtain ⟨g, off, e, hne, hlt, hcell⟩ := hc h0
  refine ⟨g, off, e, hne, Nat.lt_of_lt_of_le hlt hb.size, fun j hj => ?_⟩
  obtain ⟨b, h1, h2⟩ := hcell j hj
  exact ⟨b, ((bcell hb).1 _ _ hlt).trans h1, h2⟩
theorem RdAny.bl {w w' : World} {rd : Nat} {A : Option Addr} {n c : Nat} (h : RdAny w rd A n c) (hb : Bl w w') : RdAny w' rd A n c := by
  obtain ⟨p, h⟩ := h
  exact ⟨p, h.bl hb⟩
theorem Rd.step {w : World} {rd : Nat} {A : Option Addr} {n c p : Nat} (h : Rd w rd A n c p) (hp : p < n) : Rd (w.setCell ⟨rd, 1, none⟩ (.int .i64 ((p : Int) + 1))) rd A n c (p + 1) := by
  obtain ⟨hr, _, hc⟩ := h
  refine ⟨(hr.set 1 _).congr fun i hi => ?_, by omega, fun h0 => ?_⟩
  · have : i = 0 ∨ i = 1 := by omega
    rcases this with rfl | rfl <;> simp
  · obtain ⟨g, off, e, hne, hlt, hcell⟩ := hc h0
    refine ⟨g, off, e, hne, by rw [World.size_setCell]; exact hlt, fun j hj => ?_⟩
    obtain ⟨b, h1, h2⟩ := hcell j hj
    exact ⟨b, by rw [World.cell?_setCell_other _ _ _ _ (fun e => hne (by injection e with e1; exact e1.symm))]; exact h1, h2⟩

/-- What a reader's call leaves: a number with a property; the reader; nothing else that was there has turned. -/
def RdPost (P : Int → Prop) (rd : Nat) (A : Option Addr) (n c : Nat) (w : World) (e : Ending) (w' : World) : Prop :=
  ∃ b : Int, P b ∧ e = .returned (.int .i64 b) ∧ RdAny w' rd A n c ∧ w.grownBy w' (some rd)
theorem grown_drewN {a w : World} {row : Option Nat} (h : a.grownBy w row) (n : Nat) : a.grownBy (w.drewN n) row := ⟨h.os, h.tape, h.output, h.size, h.block⟩
set_option maxHeartbeats 1000000 in
theorem next_any (rd : Nat) (A : Option Addr) (n c : Nat) (w : World) (hn : n ≤ 1099511627776) (HR : RdAny w rd A n c) :
    Calls Try.prog 98 #[.pointer (some ⟨rd, 0, none⟩)] w (RdPost (fun b => 0 ≤ b ∧ b ≤ 255) rd A n c w) := by
  obtain ⟨p, HR⟩ := HR
  have R := Lib.hid HR
  obtain ⟨hr, hp, hc⟩ := HR
  have q0 := hr.cell (i := 0) (by omega)
  have q1 := hr.cell (i := 1) (by omega)
  have f0 := hr.frozen 0
  have f1 := hr.frozen 1
  simp only [if_pos, if_neg, Nat.one_ne_zero, if_false, if_true] at q0 q1
  have C := Lib.hid hc
  clear hr hc
  by_cases hpn : p < n
  · obtain ⟨g, off, rfl, hne, hlt, hcell⟩ := C.out (by omega)
    obtain ⟨b, hb, hb0, hb1⟩ := hcell p hpn
    have hcell' : (w.setCell ⟨rd, 1, none⟩ (.int .i64 ((p : Int) + 1))).cell? ⟨g, off + p, none⟩ = some (.int .u8 b) := by
      rw [World.cell?_setCell_other _ _ _ _ (fun e => hne (by injection e with e1; exact e1.symm))]; exact hb
    have u1 : decide ((n : Int) ≤ (p : Int)) = false := by simp; omega
    have u2 : (0 : Int) ≤ (p : Int) := by omega
    have u3 : (p : Int) < (n : Int) := by omega
    have w1 : IntKind.i64.wrap ((p : Int) + 1 - 1) = (p : Int) := by rw [show (p : Int) + 1 - 1 = p from by omega]; exact IntWalk.i64_in _ (by omega)
    clear hcell C
    go_enter Try.func98, Try.ntmps98
    go_wp2_with fail
    go_quiet (fail)
    go_wp2_with fail
    go_quiet (fail)
    go_wp2
    go_ret
    exact ⟨b, ⟨hb0, hb1⟩, rfl, ⟨p + 1, (Rd.step (Rd.bl R.out (Bl.drewN_ (Bl.refl w) _)) hpn).bl (Bl.drewN_ (Bl.refl _) _)⟩, grown_drewN (grown_set (grown_drewN (World.grownBy.refl w (some rd)) _) (.inl rfl) _) _⟩
  · have u1 : decide ((n : Int) ≤ (p : Int)) = true := by simp; omega
    go_enter Try.func98, Try.ntmps98
    go_wp2_with fail
    go_quiet (fail)
    go_wp2
    go_ret
    exact ⟨0, by omega, rfl, ⟨p, R.out.bl (by repeat' (first | exact Bl.refl _ | with_reducible assumption | with_reducible refine Bl.drew_ ?_ | with_reducible refine Bl.drewN_ ?_ _ | with_reducible refine Bl.alloc_ ?_ _ | with_reducible refine Bl.trans_ ?_ (by assumption) | with_reducible refine Bl.trans_ ?_ (And.left (by assumption))))⟩, bl_grown (by repeat' (first | exact Bl.refl _ | with_reducible assumption | with_reducible refine Bl.drew_ ?_ | with_reducible refine Bl.drewN_ ?_ _ | with_reducible refine Bl.alloc_ ?_ _ | with_reducible refine Bl.trans_ ?_ (by assumption) | with_reducible refine Bl.trans_ ?_ (And.left (by assumption)))) _⟩

theorem rem_small {a m : Int} (h0 : 0 ≤ a) (h1 : 0 < m) : 0 ≤ a % m ∧ a % m < m := ⟨Int.emod_nonneg _ (by omega), Int.emod_lt_of_pos _ h1⟩

set_option maxHeartbeats 1000000 in
theorem below_any (m : Int) (rd : Nat) (A : Option Addr) (n c : Nat) (w : World) (hn : n ≤ 1099511627776) (hm : m ≤ 4611686018427387904) (HR : RdAny w rd A n c) :
    Calls Try.prog 80 #[.pointer (some ⟨rd, 0, none⟩), .int .i64 m] w (RdPost (fun b => 0 ≤ b ∧ (b = 0 ∨ b < m)) rd A n c w) := by
  have R := Lib.hid HR
  clear HR
  by_cases h1 : m ≤ 1
  · go_enter Try.func80, Try.ntmps80
    go_wp2
    go_ret
    exact ⟨0, ⟨by omega, .inl rfl⟩, rfl, R.out, World.grownBy.refl w _⟩
  · have h1' : (0 : Int) < m := by omega
    have h1'' : (1 : Int) ≤ m := by omega
    by_cases h2 : m ≤ 256
    · go_enter Try.func80, Try.ntmps80
      go_wp2_with fail
      refine (next_any rd A n c _ hn R.out).mono ?_
      rintro e w1 ⟨b, ⟨b0, b1⟩, rfl, hr, hg⟩
      have R1 := Lib.hid hr
      have G1 := Lib.hid hg
      clear hr hg
      have hr := Lib.hid (rem_small b0 h1')
      go_wp2
      go_ret
      exact ⟨b % m, ⟨hr.out.1, .inr hr.out.2⟩, rfl, R1.out, G1.out⟩
    · go_enter Try.func80, Try.ntmps80
      go_wp2_with fail
      refine (next_any rd A n c _ hn R.out).mono ?_
      rintro e w1 ⟨b, ⟨b0, b1⟩, rfl, hr, hg⟩
      have R1 := Lib.hid hr
      have G1 := Lib.hid hg
      clear hr hg
      go_wp2_with fail
      refine (next_any rd A n c _ hn R1.out).mono ?_
      rintro e w2 ⟨d, ⟨d0, d1⟩, rfl, hr, hg⟩
      have R2 := Lib.hid hr
      have G2 := Lib.hid hg
      clear hr hg
      have hr := Lib.hid (rem_small (a := b * 256 + d) (by omega) h1')
      have u0 : (0 : Int) ≤ b * 256 + d := by omega
      go_wp2
      go_ret
      exact ⟨(b * 256 + d) % m, ⟨hr.out.1, .inr hr.out.2⟩, rfl, R2.out, grown_trans G1.out G2.out⟩

/-- What a reader's test leaves. -/
def RdTest (rd : Nat) (A : Option Addr) (n c : Nat) (w : World) (e : Ending) (w' : World) : Prop :=
  ∃ b : Bool, e = .returned (.bool b) ∧ RdAny w' rd A n c ∧ w.grownBy w' (some rd)

set_option maxHeartbeats 400000 in
theorem once_any (m : Int) (rd : Nat) (A : Option Addr) (n c : Nat) (w : World) (hn : n ≤ 1099511627776) (hm : m ≤ 4611686018427387904) (hm0 : 0 ≤ m) (HR : RdAny w rd A n c) :
    Calls Try.prog 81 #[.pointer (some ⟨rd, 0, none⟩), .int .i64 m] w (RdTest rd A n c w) := by
  have R := Lib.hid HR
  clear HR
  go_enter Try.func81, Try.ntmps81
  go_wp2_with fail
  refine (below_any m rd A n c _ hn hm R.out).mono ?_
  rintro e w1 ⟨b, hb, rfl, hr, hg⟩
  have R1 := Lib.hid hr
  have G1 := Lib.hid hg
  clear hr hg hb
  go_wp2
  go_ret
  exact ⟨b == m - 1, rfl, R1.out, G1.out⟩


/-- A word is left. -/
def RdWord (rd : Nat) (A : Option Addr) (n c : Nat) (w : World) (e : Ending) (w' : World) : Prop :=
  ∃ b : Int, 0 ≤ b ∧ e = .returned (.int .u64 b) ∧ RdAny w' rd A n c ∧ w.grownBy w' (some rd)

set_option maxHeartbeats 1000000 in
theorem word_any (rd : Nat) (A : Option Addr) (n c : Nat) (w : World) (hn : n ≤ 1099511627776) (HR : RdAny w rd A n c) :
    Calls Try.prog 99 #[.pointer (some ⟨rd, 0, none⟩)] w (RdWord rd A n c w) := by
  have R := Lib.hid HR
  clear HR
  go_enter Try.func99, Try.ntmps99
  go_wp2
  go_loopw [3, 4] (fun x i wr => ∃ (k : Nat) (b : Int), k ≤ 8 ∧ i = .int .i64 k ∧ 0 ≤ b ∧ x = .int .u64 b ∧ RdAny wr rd A n c ∧ w.grownBy wr (some rd)) (fun _ i _ => 8 - (intOf i).toNat)
  case atStart => exact ⟨0, 0, by omega, rfl, by omega, rfl, R.out, World.grownBy.refl w _⟩
  case round =>
    obtain ⟨k, b, hk, rfl, hb, rfl, hr, hg⟩ := hrel
    have R0 := Lib.hid hr
    have G0 := Lib.hid hg
    clear hr hg
    by_cases hlt : k < 8
    · go_wp2_with fail
      refine (next_any rd A n c _ hn R0.out).mono ?_
      rintro e w1 ⟨d, ⟨d0, d1⟩, rfl, hr, hg⟩
      have R1 := Lib.hid hr
      have G1 := Lib.hid hg
      clear hr hg
      go_wp2
      go_roundw
      case rel =>
        exact ⟨k + 1, _, by omega, by go_num, (bounds_u64 (wf_bits _ _ _ _)).1, rfl, R1.out, grown_trans G0.out G1.out⟩
      case measure => simp [intOf]; omega
    · go_wp2
      go_ret
      exact ⟨b, hb, rfl, R0.out, G0.out⟩

/-- A number of 64 bits. -/
def In64 (b : Int) : Prop := -9223372036854775808 ≤ b ∧ b ≤ 9223372036854775807
theorem wrap64_bounds (x : Int) : In64 (wrap64 x) := by
  unfold In64 wrap64
  omega

theorem div_ok {lo hi : Int} (h : lo ≤ hi) (l0 : 0 ≤ lo) (l1 : lo ≤ 1000) (h0 : -9223372036854775808 ≤ hi) (h1 : hi ≤ 9223372036854775807) : ¬ (IntKind.u64.wrap (wrap64 (hi - lo + 1)) = 0) := by
  rw [IntKind.wrap_u64]
  unfold wrap64
  omega

set_option maxHeartbeats 2000000 in
theorem near_any (lo hi : Int) (rd : Nat) (A : Option Addr) (n c : Nat) (w : World) (hn : n ≤ 1099511627776) (l0 : 0 ≤ lo) (l1 : lo ≤ 1000) (h0 : -9223372036854775808 ≤ hi) (h1 : hi ≤ 9223372036854775807) (HR : RdAny w rd A n c) :
    Calls Try.prog 83 #[.pointer (some ⟨rd, 0, none⟩), .int .i64 lo, .int .i64 hi] w (RdPost In64 rd A n c w) := by
  have R := Lib.hid HR
  clear HR
  go_enter Try.func83, Try.ntmps83
  go_wp2_with fail
  refine (below_any 8 rd A n c _ hn (by omega) R.out).mono ?_
  rintro e w1 ⟨b, ⟨b0, b1⟩, rfl, hr, hg⟩
  have R1 := Lib.hid hr
  have G1 := Lib.hid hg
  clear hr hg
  by_cases e0 : b = 0
  · have t0 : (b == 0) = true := by simpa using e0
    clear e0
    go_wp2
    go_ret
    exact ⟨lo, (by unfold In64; omega), rfl, R1.out, G1.out⟩
  · have t0 : (b == 0) = false := by simpa using e0
    clear e0
    by_cases e1 : b = 1
    · have t1 : (b == 1) = true := by simpa using e1
      clear e1
      go_wp2
      go_ret
      exact ⟨hi, ⟨h0, h1⟩, rfl, R1.out, G1.out⟩
    · have t1 : (b == 1) = false := by simpa using e1
      clear e1
      by_cases hl : hi < lo
      · go_wp2
        go_ret
        exact ⟨lo, (by unfold In64; omega), rfl, R1.out, G1.out⟩
      · go_wp2_with fail
        refine (word_any rd A n c _ hn R1.out).mono ?_
        rintro e w2 ⟨d, d0, rfl, hr, hg⟩
        have R2 := Lib.hid hr
        have G2 := Lib.hid hg
        clear hr hg
        have hne : ¬ (IntKind.u64.wrap (wrap64 (hi - lo + 1)) = 0) := div_ok (by omega) l0 l1 h0 h1
        go_wp2
        go_ret
        exact ⟨_, wrap64_bounds _, rfl, R2.out, grown_trans G1.out G2.out⟩


theorem four_cell {w w' : World} {rd : Nat} {a b c d : Value} {t : TypeId} (hg : (w.alloc (.cells #[a, b, c, d] t)).grownBy w' (some rd)) (hr : rd < w.heap.size) : w'.cell? ⟨w.heap.size, 0, none⟩ = some a ∧ w'.cell? ⟨w.heap.size, 1, none⟩ = some b ∧ w'.cell? ⟨w.heap.size, 2, none⟩ = some c ∧ w'.cell? ⟨w.heap.size, 3, none⟩ = some d := by
  have hne : some w.heap.size ≠ some rd := fun h => by injection h with h; omega
  exact ⟨hg.cell (by simp [go_sem]) hne, hg.cell (by simp [go_sem]) hne, hg.cell (by simp [go_sem]) hne, hg.cell (by simp [go_sem]) hne⟩
theorem RdAny.lt {w : World} {rd : Nat} {A : Option Addr} {n c : Nat} (h : RdAny w rd A n c) : rd < w.heap.size := by
  obtain ⟨p, h⟩ := h
  exact h.1.lt

set_option maxHeartbeats 2000000 in
theorem off_any (lo hi : Int) (rd : Nat) (A : Option Addr) (n c : Nat) (w : World) (hn : n ≤ 1099511627776) (l0 : 0 ≤ lo) (l1 : lo ≤ 1000) (h0 : -9223372036854775808 ≤ hi) (h1 : hi ≤ 9223372036854775807) (HR : RdAny w rd A n c) :
    Calls Try.prog 56 #[.pointer (some ⟨rd, 0, none⟩), .int .i64 lo, .int .i64 hi] w (RdPost In64 rd A n c w) := by
  have R := Lib.hid HR
  clear HR
  go_enter Try.func56, Try.ntmps56
  go_wp2_with fail
  refine (once_any 24 rd A n c _ hn (by omega) (by omega) R.out).mono ?_
  rintro e w1 ⟨b, rfl, hr, hg⟩
  have R1 := Lib.hid hr
  have G1 := Lib.hid hg
  have hlt := hr.lt
  clear hr hg
  cases b with
  | false =>
    go_wp2_with fail
    refine (near_any lo hi rd A n c _ hn l0 l1 h0 h1 R1.out).mono ?_
    rintro e w2 ⟨d, hd, rfl, hr, hg⟩
    have HD := Lib.hid hd
    have R2 := Lib.hid hr
    have G2 := Lib.hid hg
    clear hr hg hd
    go_wp2
    go_ret
    exact ⟨d, HD.out, rfl, R2.out, grown_trans G1.out G2.out⟩
  | true =>
    go_wp2_with fail
    refine (below_any 4 rd A n c _ hn (by omega) (R1.out.bl (Bl.alloc_ (Bl.refl w1) _))).mono ?_
    rintro e w2 ⟨d, ⟨d0, d1⟩, rfl, hr, hg⟩
    have R2 := Lib.hid hr
    have G2 := Lib.hid hg
    obtain ⟨c0, c1, c2, c3⟩ := four_cell hg hlt
    clear hr hg
    have hd : d = 0 ∨ d = 1 ∨ d = 2 ∨ d = 3 := by omega
    have GG := Lib.hid (grown_trans (G1.out) (grown_trans (bl_grown (Bl.alloc_ (Bl.refl w1) _) _) G2.out))
    rcases hd with rfl | rfl | rfl | rfl
    · go_wp2
      go_ret
      exact ⟨_, (by first | (unfold In64; omega) | exact wrap64_bounds _), rfl, R2.out, GG.out⟩
    · go_wp2
      go_ret
      exact ⟨_, (by first | (unfold In64; omega) | exact wrap64_bounds _), rfl, R2.out, GG.out⟩
    · go_wp2
      go_ret
      exact ⟨_, (by first | (unfold In64; omega) | exact wrap64_bounds _), rfl, R2.out, GG.out⟩
    · go_wp2
      go_ret
      exact ⟨_, (by first | (unfold In64; omega) | exact wrap64_bounds _), rfl, R2.out, GG.out⟩

end Go.Proofs.Ytjmooakjdcepcaa

set_option linter.unusedSimpArgs false
set_option linter.unusedVariables false
namespace Go.Proofs.Ytjmooakjdcepcaa
open Go.RowKit

/-- The slice at A reads as bytes. -/
def BytesAt (w : World) (A : Option Addr) (n : Nat) : Prop := 0 < n → ∃ g off, A = some ⟨g, off, none⟩ ∧ g < w.heap.size ∧ ∀ j, j < n → ∃ b : Int, w.cell? ⟨g, off + j, none⟩ = some (.int .u8 b) ∧ 0 ≤ b ∧ b ≤ 255
theorem BytesAt.bl {w w' : World} {A : Option Addr} {n : Nat} (h : BytesAt w A n) (hb : Bl w w') : BytesAt w' A n := fun h0 => by
  obtain ⟨g, off, e, hlt, hc⟩ := h h0
  refine ⟨g, off, e, Nat.lt_of_lt_of_le hlt hb.size, fun j hj => ?_⟩
  obtain ⟨b, h1, h2⟩ := hc j hj
  exact ⟨b, ((bcell hb).1 _ _ hlt).trans h1, h2⟩
theorem RdAny.turn {w w' : World} {rd : Nat} {A : Option Addr} {n c : Nat} {S : Nat → Prop} (h : RdAny w rd A n c) (k : Turn S w w') (h1 : ¬ S rd) (h2 : 0 < n → ∀ g, blockOf A = some g → ¬ S g) : RdAny w' rd A n c := by
  obtain ⟨p, hr, hp, hc⟩ := h
  refine ⟨p, hr.of_block (k.block rd hr.lt h1), hp, fun h0 => ?_⟩
  obtain ⟨g, off, rfl, hne, hlt, hcell⟩ := hc h0
  refine ⟨g, off, rfl, hne, Nat.lt_of_lt_of_le hlt k.size, fun j hj => ?_⟩
  obtain ⟨b, e1, e2⟩ := hcell j hj
  exact ⟨b, (k.cell hlt (h2 h0 g rfl) _).trans e1, e2⟩
set_option maxHeartbeats 400000 in
theorem open_any (A : Option Addr) (n c : Nat) (w : World) (H : BytesAt w A n) :
    Calls Try.prog 53 #[.slice A n c] w fun e w' => e = .returned (.pointer (some ⟨w.heap.size, 0, none⟩)) ∧ RdAny w' w.heap.size A n c ∧ Bl w w' ∧ w.heap.size < w'.heap.size := by
  have K := Lib.hid H
  clear H
  go_enter Try.func53, Try.ntmps53
  go_wp2
  go_ret
  refine ⟨rfl, ⟨0, ?_, by omega, fun h0 => ?_⟩, (by repeat' (first | exact Bl.refl _ | with_reducible assumption | with_reducible refine Bl.drew_ ?_ | with_reducible refine Bl.drewN_ ?_ _ | with_reducible refine Bl.alloc_ ?_ _ | with_reducible refine Bl.trans_ ?_ (by assumption) | with_reducible refine Bl.trans_ ?_ (And.left (by assumption)))), by simp⟩
  · exact World.rowIs_alloc w #[.slice A n c, .int .i64 0] 95 _ (fun i hi => by
      have : i = 0 ∨ i = 1 := by simp at hi; omega
      rcases this with rfl | rfl <;> rfl)
  · obtain ⟨g, off, e, hlt, hc⟩ := K.out h0
    refine ⟨g, off, e, by omega, by simp; omega, fun j hj => ?_⟩
    obtain ⟨b, h1, h2⟩ := hc j hj
    exact ⟨b, by simp [go_sem, h1, hlt], h2⟩
theorem BytesAt.lt {w : World} {A : Option Addr} {n : Nat} (h : BytesAt w A n) (hz : 0 < n) : ∀ g, blockOf A = some g → g < w.heap.size := fun g hg => by
  obtain ⟨g', off, rfl, hlt, _⟩ := h hz
  simp [blockOf] at hg
  omega

set_option maxHeartbeats 400000 in
theorem big_any (A : Option Addr) (n c : Nat) (w : World) :
    Calls Try.prog 9 #[.slice A n c] w fun e w' => e = .returned (.bool (decide ((1048576 : Int) < (n : Int)))) ∧ w = w' := by
  go_enter Try.func9, Try.ntmps9
  go_wp2
  go_ret
  exact ⟨rfl, rfl⟩

end Go.Proofs.Ytjmooakjdcepcaa

set_option linter.unusedSimpArgs false
set_option linter.unusedVariables false
namespace Go.Proofs.Ytjmooakjdcepcaa
open Go.RowKit



set_option maxHeartbeats 2000000 in
theorem node_any (N : Int) (v : Value) (rd : Nat) (A : Option Addr) (n c : Nat) (w : World) (hn : n ≤ 1099511627776) (h0 : -9223372036854775808 ≤ N) (h1 : N ≤ 9223372036854775807) (HR : RdAny w rd A n c) :
    Calls Try.prog 55 #[.pointer (some ⟨rd, 0, none⟩), .agg #[.int .i64 N, v]] w (RdPost In64 rd A n c w) := by
  have R := Lib.hid HR
  have hlt := HR.lt
  clear HR
  go_enter Try.func55, Try.ntmps55
  go_wp2_with fail
  refine (once_any 30 rd A n c _ hn (by omega) (by omega) (R.out.bl (Bl.alloc_ (Bl.refl w) _))).mono ?_
  rintro e w1 ⟨b, rfl, hr, hg⟩
  have R1 := Lib.hid hr
  have q0 : w1.cell? ⟨w.heap.size, 0, none⟩ = some (.int .i64 N) := hg.cell (by simp [go_sem]) (by simp; omega)
  have G1 := Lib.hid (grown_trans (bl_grown (Bl.alloc_ (Bl.refl w) _) _) hg)
  clear hr hg
  have hb := wrap64_bounds (N - 1)
  cases b with
  | true =>
    go_wp2_with fail
    refine (off_any 0 (wrap64 (N - 1)) rd A n c _ hn (by omega) (by omega) hb.1 hb.2 R1.out).mono ?_
    rintro e w2 ⟨d, hd, rfl, hr, hg⟩
    have HD := Lib.hid hd
    have R2 := Lib.hid hr
    have G2 := Lib.hid hg
    clear hr hg hd
    go_wp2
    go_ret
    exact ⟨d, HD.out, rfl, R2.out, grown_trans G1.out G2.out⟩
  | false =>
    go_wp2_with fail
    all_goals (refine (below_any _ rd A n c _ hn (by omega) R1.out).mono ?_; rintro e w2 ⟨d, hd, rfl, hr, hg⟩; have HD := Lib.hid (show In64 d from by unfold In64; omega); have R2 := Lib.hid hr; have G2 := Lib.hid hg; clear hr hg hd)
    all_goals (go_wp2; go_ret; exact ⟨d, HD.out, rfl, R2.out, grown_trans G1.out G2.out⟩)

end Go.Proofs.Ytjmooakjdcepcaa

set_option linter.unusedSimpArgs false
set_option linter.unusedVariables false
namespace Go.Proofs.Ytjmooakjdcepcaa
open Go.RowKit

/-- A drawn graph: some number of nodes, some arcs, in new memory. -/
def Drawn (B : Nat) (w' : World) (N : Int) (A' : Option Addr) (l c' : Nat) (L : List Arc3) : Prop :=
  l = L.length ∧ l ≤ 200 ∧ In64 N ∧ OwnA w' B (.slice A' l c') L
/-- What the drawing of a graph leaves. -/
def GraphDrawn (rd : Nat) (A : Option Addr) (n c : Nat) (w : World) (e : Ending) (w' : World) : Prop :=
  ∃ (N : Int) (A' : Option Addr) (l c' : Nat) (L : List Arc3), e = .returned (.agg #[.int .i64 N, .slice A' l c']) ∧ Drawn w.heap.size w' N A' l c' L ∧ RdAny w' rd A n c ∧ w.grownBy w' (some rd)

theorem RdAny.set_ {w : World} {rd : Nat} {A : Option Addr} {n c : Nat} (h : RdAny w rd A n c) {p : Addr} (hp : p.block ≠ rd) (hA : 0 < n → ∀ g off, A = some ⟨g, off, none⟩ → g ≠ p.block) (u : Value) : RdAny (w.setCell p u) rd A n c := by
  obtain ⟨q, hr, hq, hc⟩ := h
  refine ⟨q, World.rowIs.setOther hr (fun e => hp e.symm) u, hq, fun h0 => ?_⟩
  obtain ⟨g, off, e, hne, hlt, hcell⟩ := hc h0
  refine ⟨g, off, e, hne, by rw [World.size_setCell]; exact hlt, fun j hj => ?_⟩
  obtain ⟨b, h1, h2⟩ := hcell j hj
  exact ⟨b, by rw [World.cell?_setCell_other _ _ _ _ (fun e' => hA h0 g off e (by rw [e']))]; exact h1, h2⟩

/-- The state while a graph is drawn: the graph's box at gb, the result's box at g0. -/
structure GS (w : World) (rd : Nat) (A : Option Addr) (n c g0 gb : Nat) (N0 : Int) (q : Value) (L : List Arc3) (wr : World) : Prop where
  box : Two wr gb (.int .i64 N0) q
  res : Two wr g0 (.int .i64 0) (.slice none 0 0)
  own : OwnA wr (gb + 1) q L
  rdr : RdAny wr rd A n c
  grw : w.grownBy wr (some rd)
  lo1 : w.heap.size ≤ g0
  lo2 : g0 < gb
  rlt : rd < w.heap.size
  alt : 0 < n → ∀ g off, A = some ⟨g, off, none⟩ → g < w.heap.size
section
variable {w wr w2 : World} {rd : Nat} {A : Option Addr} {n c g0 gb : Nat} {N0 : Int} {q : Value} {L : List Arc3}
theorem GS.rd_ (h : GS w rd A n c g0 gb N0 q L wr) (hr : RdAny w2 rd A n c) (hg : wr.grownBy w2 (some rd)) : GS w rd A n c g0 gb N0 q L w2 := by
  have h1 := h.lo1; have h2 := h.lo2; have h3 := h.rlt
  exact ⟨h.box.grown_ hg (fun e => by injection e with e; omega), h.res.grown_ hg (fun e => by injection e with e; omega), h.own.grown_ hg (fun g e => by injection e with e; omega), hr, grown_trans h.grw hg, h1, h2, h3, h.alt⟩
theorem GS.bl_ (h : GS w rd A n c g0 gb N0 q L wr) (hb : Bl wr w2) : GS w rd A n c g0 gb N0 q L w2 :=
  ⟨h.box.bl hb, h.res.bl hb, h.own.bl hb, h.rdr.bl hb, grown_trans h.grw (bl_grown hb _), h.lo1, h.lo2, h.rlt, h.alt⟩
theorem GS.put (h : GS w rd A n c g0 gb N0 q L wr) {q2 : Value} {L2 : List Arc3} (ho : OwnA wr (gb + 1) q2 L2) : GS w rd A n c g0 gb N0 q2 L2 (wr.setCell ⟨gb, 1, none⟩ q2) := by
  have h1 := h.lo1; have h2 := h.lo2; have h3 := h.rlt
  exact ⟨h.box.set1 _, h.res.far (by show g0 ≠ gb; omega) _, ho.set_ (by show gb < gb + 1; omega) _, h.rdr.set_ (by show gb ≠ rd; omega) (fun h0 g off e => by have := h.alt h0 g off e; show g ≠ gb; omega) _,
    ⟨h.grw.os, h.grw.tape, h.grw.output, by rw [World.size_setCell]; exact h.grw.size, fun i hi hne => (Below.heap_setCell wr ⟨gb, 1, none⟩ q2 i (by show i ≠ gb; omega)).trans (h.grw.block i hi hne)⟩, h1, h2, h3, h.alt⟩
theorem GS.num (h : GS w rd A n c g0 gb N0 q L wr) (N1 : Int) : GS w rd A n c g0 gb N1 q L (wr.setCell ⟨gb, 0, none⟩ (.int .i64 N1)) := by
  have h1 := h.lo1; have h2 := h.lo2; have h3 := h.rlt
  exact ⟨h.box.set0 _, h.res.far (by show g0 ≠ gb; omega) _, h.own.set_ (by show gb < gb + 1; omega) _, h.rdr.set_ (by show gb ≠ rd; omega) (fun h0 g off e => by have := h.alt h0 g off e; show g ≠ gb; omega) _,
    ⟨h.grw.os, h.grw.tape, h.grw.output, by rw [World.size_setCell]; exact h.grw.size, fun i hi hne => (Below.heap_setCell wr ⟨gb, 0, none⟩ _ i (by show i ≠ gb; omega)).trans (h.grw.block i hi hne)⟩, h1, h2, h3, h.alt⟩
theorem GS.fin {A' : Option Addr} {l c' : Nat} (h : GS w rd A n c g0 gb N0 (.slice A' l c') L wr) (h0 : In64 N0) (hl : L.length ≤ 200) (x y : Value) :
    GraphDrawn rd A n c w (.returned (.agg #[.int .i64 N0, .slice A' l c'])) ((wr.setCell ⟨g0, 0, none⟩ x).setCell ⟨g0, 1, none⟩ y) := by
  have h1 := h.lo1; have h2 := h.lo2; have h3 := h.rlt
  obtain ⟨AA, cc, hq, _, _⟩ := h.own.shape
  injection hq with _ e2 _
  refine ⟨N0, A', l, c', L, rfl, ⟨e2, by omega, h0, ((h.own.set_ (by show g0 < gb + 1; omega) _).set_ (by show g0 < gb + 1; omega) _).low (by omega)⟩,
    (h.rdr.set_ (by show g0 ≠ rd; omega) (fun h0 g off e => by have := h.alt h0 g off e; show g ≠ g0; omega) _).set_ (by show g0 ≠ rd; omega) (fun h0 g off e => by have := h.alt h0 g off e; show g ≠ g0; omega) _,
    ⟨h.grw.os, h.grw.tape, h.grw.output, by rw [World.size_setCell, World.size_setCell]; exact h.grw.size, fun i hi hne => (Below.heap_setCell _ ⟨g0, 1, none⟩ y i (by show i ≠ g0; omega)).trans ((Below.heap_setCell wr ⟨g0, 0, none⟩ x i (by show i ≠ g0; omega)).trans (h.grw.block i hi hne))⟩⟩
end

set_option maxRecDepth 100000 in
set_option maxHeartbeats 8000000 in
theorem graph_any (most : Int) (rd : Nat) (A : Option Addr) (n c : Nat) (w : World) (hn : n ≤ 1099511627776) (m0 : 2 ≤ most) (m1 : most ≤ 16) (HR : RdAny w rd A n c) (HA : 0 < n → ∀ g off, A = some ⟨g, off, none⟩ → g < w.heap.size) :
    Calls Try.prog 54 #[.pointer (some ⟨rd, 0, none⟩), .int .i64 most] w (GraphDrawn rd A n c w) := by
  have R := Lib.hid HR
  have AL := Lib.hid HA
  have hlt := HR.lt
  clear HR HA
  go_enter Try.func54, Try.ntmps54
  go_wp2_with fail
  refine (below_any most rd A n c _ hn (by omega) (R.out.bl (Bl.alloc_ (Bl.refl w) _))).mono ?_
  rintro e w1 ⟨b, hb, rfl, hr, hg⟩
  have b0 : 0 ≤ b := hb.1
  have b1 : b < most := by omega
  have hs1 : w.heap.size + 1 ≤ w1.heap.size := by have := hg.size; simpa using this
  have GS0 := Lib.hid (show GS w rd A n c w.heap.size w1.heap.size (1 + b) (.slice none 0 0) [] (w1.alloc (.cells #[.int .i64 (1 + b), .slice none 0 0] 26)) from
    ⟨Two.new _ _ _, Two.bl ((Two.new w _ _).grown_ hg (fun e => by injection e with e; omega)) (Bl.alloc_ (Bl.refl _) _), OwnA.nil_ _ _, hr.bl (Bl.alloc_ (Bl.refl _) _),
      grown_trans (grown_trans (bl_grown (Bl.alloc_ (Bl.refl w) _) _) hg) (bl_grown (Bl.alloc_ (Bl.refl w1) _) _), Nat.le_refl _, by omega, hlt, AL.out⟩)
  obtain ⟨gb, hgb⟩ : ∃ gb, gb = w1.heap.size := ⟨_, rfl⟩
  clear hr hg hb
  go_wp2_with fail
  rw [← hgb] at GS0 ⊢
  refine (once_any 4 rd A n c _ hn (by omega) (by omega) GS0.out.rdr).mono ?_
  rintro e w2 ⟨tst, rfl, hr, hg⟩
  have GS1 := Lib.hid (GS0.out.rd_ hr hg)
  clear hr hg hgb hs1 GS0
  cases tst with
  | true =>
    have hL0 : ([] : List Arc3).length ≤ 32 := by simp
    obtain ⟨c0, c1, f0, f1⟩ := GS1.out.box.facts
    go_wp2_with fail
    refine (below_any 8 rd A n c _ hn (by omega) GS1.out.rdr).mono ?_
    rintro e w5 ⟨y, hy, rfl, hr, hg⟩
    have y0 : 0 ≤ y := hy.1
    have y1 : y < 8 := by have := hy.2; omega
    have T := Lib.hid (GS1.out.rd_ hr hg)
    clear hy hr hg c0 c1 f0 f1 GS1
    go_wp2_with fail
    go_loopw [9] (fun i wr => ∃ (m : Int) (q : Value) (L : List Arc3), 0 ≤ m ∧ m ≤ 7 ∧ i = .int .i64 m ∧ (L.length : Int) + m ≤ 40 ∧ GS w rd A n c w.heap.size gb (1 + b) q L wr) (fun i _ => (intOf i).toNat)
    case atStart => exact ⟨y, _, _, y0, by omega, rfl, by first | omega | (simp; omega), T.out⟩
    case round =>
      clear T hL0
      obtain ⟨m, q2, L2, mm0, m7, rfl, hL2, hS2⟩ := hrel
      have U := Lib.hid hS2
      clear hS2
      obtain ⟨c0, c1, f0, f1⟩ := U.out.box.facts
      by_cases e1 : 0 < m
      · by_cases e2 : 1 < 1 + b
        · go_wp2_with fail
          refine (below_any (1 + b) rd A n c _ hn (by omega) U.out.rdr).mono ?_
          rintro e w6 ⟨u, hu, rfl, hr, hg⟩
          have u0 : 0 ≤ u := hu.1
          have u1 : u < 16 := by have := hu.2; omega
          have U1 := Lib.hid (U.out.rd_ hr hg)
          clear hu hr hg c0 c1 f0 f1 U
          obtain ⟨c0, c1, f0, f1⟩ := U1.out.box.facts
          go_wp2_with fail
          refine (below_any (1 + b) rd A n c _ hn (by omega) U1.out.rdr).mono ?_
          rintro e w7 ⟨v, hv, rfl, hr, hg⟩
          have v0 : 0 ≤ v := hv.1
          have v1 : v < 16 := by have := hv.2; omega
          have U2 := Lib.hid (U1.out.rd_ hr hg)
          clear hv hr hg c0 c1 f0 f1 U1
          obtain ⟨AA, cc, rfl, hAA, _⟩ := U2.out.own.shape
          clear hAA
          obtain ⟨c0, c1, f0, f1⟩ := U2.out.box.facts
          by_cases e3 : (u != v) = true
          · go_wp2_with fail
            go_region_with (first
              | (go_at_call 80; refine (below_any 12 rd A n c _ hn (by omega) ((U2.out.bl_ (by repeat' (first | exact Bl.refl _ | with_reducible assumption | with_reducible refine Bl.drew_ ?_ | with_reducible refine Bl.drewN_ ?_ _ | with_reducible refine Bl.alloc_ ?_ _ | with_reducible refine Bl.trans_ ?_ (by assumption) | with_reducible refine Bl.trans_ ?_ (And.left (by assumption))))).rdr)).mono ?_; rintro e w8 ⟨z, hz, rfl, hr, hg⟩; have z0 : 0 ≤ z := hz.1; have z1 : z < 12 := (by have := hz.2; omega); have U3 := Lib.hid ((U2.out.bl_ (by repeat' (first | exact Bl.refl _ | with_reducible assumption | with_reducible refine Bl.drew_ ?_ | with_reducible refine Bl.drewN_ ?_ _ | with_reducible refine Bl.alloc_ ?_ _ | with_reducible refine Bl.trans_ ?_ (by assumption) | with_reducible refine Bl.trans_ ?_ (And.left (by assumption))))).rd_ hr hg); clear hz hr hg; obtain ⟨d0, d1, k0, k1⟩ := U3.out.box.facts)
              | (go_at_call 82; obtain ⟨_, _, hq, hAA, _⟩ := U3.out.own.shape; injection hq with q1 _ q3; subst q1; subst q3; refine (l1Put_any _ _ _ _ _ _ L2 rfl _ (by omega) hAA).mono ?_; rintro e w9 ⟨v4, rfl, ho, hb⟩; obtain ⟨AB, cb, rfl, _, _⟩ := ho.shape; have P := putL_len (u, v, 1 + z) L2; have U4 := Lib.hid ((U3.out.bl_ hb).put (ho.low (World.rowIs.lt U3.out.box))); clear d0 d1 k0 k1; obtain ⟨d0, d1, k0, k1⟩ := (U3.out.bl_ hb).box.facts; clear hAA ho hb))
            all_goals (go_wp2; go_roundw)
            all_goals (first | (case measure => (simp [intOf]; omega)) | skip)
            all_goals (refine ⟨m - 1, .slice AB (putL (u, v, 1 + z) L2).length cb, putL (u, v, 1 + z) L2, by omega, by omega, by go_num, by omega, by have hw : IntKind.i64.wrap (1 + z) = 1 + z := IntWalk.i64_in _ (by omega); have X := U4.out; rw [hw] at X; exact X⟩)
          · have e3' : (u != v) = false := by simpa using e3
            clear e3
            go_wp2_with fail
            go_roundw
            case rel => exact ⟨m - 1, _, L2, by omega, by omega, by go_num, by omega, U2.out⟩
            case measure => simp [intOf]; omega
        · skip
          obtain ⟨AV, cv, rfl, hAV, _⟩ := U.out.own.shape
          clear hAV
          go_wp2_with fail
          refine (once_any 60 rd A n c _ hn (by omega) (by omega) U.out.rdr).mono ?_
          rintro e w8 ⟨t3, rfl, hr, hg⟩
          have V := Lib.hid (U.out.rd_ hr hg)
          clear hr hg c0 c1 f0 f1 U
          cases t3 with
          | true =>
            go_wp2_with fail
            refine (off_any 1 24 rd A n c _ hn (by omega) (by omega) (by omega) (by omega) V.out.rdr).mono ?_
            rintro e w9 ⟨N9, hN9, rfl, hr, hg⟩
            have W := Lib.hid (V.out.rd_ hr hg)
            obtain ⟨c0, c1, f0, f1⟩ := W.out.box.facts
            obtain ⟨r0, r1, fr0, fr1⟩ := W.out.res.facts
            have nb : gb ≠ w.heap.size := by have := W.out.lo2; omega
            have nb' : w.heap.size ≠ gb := by omega
            go_wp2
            refine bodyPost_ret (v := .agg #[.int .i64 N9, .slice AV L2.length cv]) (by simp [results, Try.results54, go_sem, r0, r1, fr0, fr1, nb, nb']) rfl ?_
            exact GS.fin (W.out.num N9) hN9 (by omega) _ _
          | false =>
            obtain ⟨c0, c1, f0, f1⟩ := V.out.box.facts
            obtain ⟨r0, r1, fr0, fr1⟩ := V.out.res.facts
            have nb : gb ≠ w.heap.size := by have := V.out.lo2; omega
            have nb' : w.heap.size ≠ gb := by omega
            go_wp2
            refine bodyPost_ret (v := .agg #[.int .i64 (1 + b), .slice AV L2.length cv]) (by simp [results, Try.results54, go_sem, r0, r1, fr0, fr1, nb, nb']) rfl ?_
            exact GS.fin (V.out) ⟨by omega, by omega⟩ (by omega) _ _
      · skip
        obtain ⟨AV, cv, rfl, hAV, _⟩ := U.out.own.shape
        clear hAV
        go_wp2_with fail
        refine (once_any 60 rd A n c _ hn (by omega) (by omega) U.out.rdr).mono ?_
        rintro e w8 ⟨t3, rfl, hr, hg⟩
        have V := Lib.hid (U.out.rd_ hr hg)
        clear hr hg c0 c1 f0 f1 U
        cases t3 with
        | true =>
          go_wp2_with fail
          refine (off_any 1 24 rd A n c _ hn (by omega) (by omega) (by omega) (by omega) V.out.rdr).mono ?_
          rintro e w9 ⟨N9, hN9, rfl, hr, hg⟩
          have W := Lib.hid (V.out.rd_ hr hg)
          obtain ⟨c0, c1, f0, f1⟩ := W.out.box.facts
          obtain ⟨r0, r1, fr0, fr1⟩ := W.out.res.facts
          have nb : gb ≠ w.heap.size := by have := W.out.lo2; omega
          have nb' : w.heap.size ≠ gb := by omega
          go_wp2
          refine bodyPost_ret (v := .agg #[.int .i64 N9, .slice AV L2.length cv]) (by simp [results, Try.results54, go_sem, r0, r1, fr0, fr1, nb, nb']) rfl ?_
          exact GS.fin (W.out.num N9) hN9 (by omega) _ _
        | false =>
          obtain ⟨c0, c1, f0, f1⟩ := V.out.box.facts
          obtain ⟨r0, r1, fr0, fr1⟩ := V.out.res.facts
          have nb : gb ≠ w.heap.size := by have := V.out.lo2; omega
          have nb' : w.heap.size ≠ gb := by omega
          go_wp2
          refine bodyPost_ret (v := .agg #[.int .i64 (1 + b), .slice AV L2.length cv]) (by simp [results, Try.results54, go_sem, r0, r1, fr0, fr1, nb, nb']) rfl ?_
          exact GS.fin (V.out) ⟨by omega, by omega⟩ (by omega) _ _
  | false =>
    go_wp2_with fail
    go_loopw [7] (fun i wr => ∃ (k : Nat) (q : Value) (L : List Arc3), (k : Int) ≤ b ∧ i = .int .i64 k ∧ L.length ≤ 2 * k ∧ GS w rd A n c w.heap.size gb (1 + b) q L wr) (fun i _ => (16 - intOf i).toNat)
    case atStart => exact ⟨0, _, _, by omega, rfl, by simp, GS1.out⟩
    case round =>
      obtain ⟨k, q, L, hk, rfl, hL, hS⟩ := hrel
      have S := Lib.hid hS
      clear hS
      by_cases hlt : (k : Int) + 1 < 1 + b
      · skip
        obtain ⟨c0, c1, f0, f1⟩ := S.out.box.facts
        go_wp2_with fail
        refine (below_any 5 rd A n c _ hn (by omega) S.out.rdr).mono ?_
        rintro e w3 ⟨x, hx, rfl, hr, hg⟩
        have x0 : 0 ≤ x := hx.1
        have x1 : x < 5 := by have := hx.2; omega
        have S3 := Lib.hid (S.out.rd_ hr hg)
        clear c0 c1 f0 f1 hr hg S hx
        have P := Lib.hid (putL_len (k, k + 1, 1 + x) L)
        obtain ⟨AA1, cc1, rfl, hAA, _⟩ := S3.out.own.shape
        have HA := Lib.hid hAA
        clear hAA
        obtain ⟨c0, c1, f0, f1⟩ := S3.out.box.facts
        go_wp2_with fail
        refine (l1Put_any _ _ _ AA1 _ cc1 _ rfl _ (by omega) HA.out).mono ?_
        rintro e w4 ⟨v4, rfl, ho, hb⟩
        obtain ⟨AB1, cb1, rfl, _, _⟩ := ho.shape
        have S4 := Lib.hid ((S3.out.bl_ hb).put (ho.low (World.rowIs.lt S3.out.box)))
        clear c0 c1 f0 f1
        obtain ⟨c0, c1, f0, f1⟩ := (S3.out.bl_ hb).box.facts
        clear ho hb S3 HA
        go_wp2_with fail
        refine (once_any 2 rd A n c _ hn (by omega) (by omega) S4.out.rdr).mono ?_
        rintro e w5 ⟨tst, rfl, hr, hg⟩
        have S5 := Lib.hid (S4.out.rd_ hr hg)
        clear hr hg c0 c1 f0 f1 S4
        have P := P.out
        cases tst with
        | true =>
          have P2 := putL_len (k + 1, k, 1 + x) (putL (k, k + 1, 1 + x) L)
          obtain ⟨AA2, cc2, hq, hAA, _⟩ := S5.out.own.shape
          injection hq with e1 _ e3
          subst e1
          subst e3
          have HA := Lib.hid hAA
          clear hAA
          obtain ⟨c0, c1, f0, f1⟩ := S5.out.box.facts
          go_wp2_with fail
          refine (l1Put_any _ _ _ _ _ _ _ rfl _ (by omega) HA.out).mono ?_
          rintro e w6 ⟨v4, rfl, ho, hb⟩
          obtain ⟨AB2, cb2, rfl, _, _⟩ := ho.shape
          have S6 := Lib.hid ((S5.out.bl_ hb).put (ho.low (World.rowIs.lt S5.out.box)))
          clear c0 c1 f0 f1
          obtain ⟨c0, c1, f0, f1⟩ := (S5.out.bl_ hb).box.facts
          clear ho hb S5 HA
          go_wp2_with fail
          go_roundw
          case rel => exact ⟨k + 1, _, _, by omega, by go_num, by omega, S6.out⟩
          case measure => simp [intOf]; omega
        | false =>
          go_wp2_with fail
          go_roundw
          case rel => exact ⟨k + 1, _, _, by omega, by go_num, by omega, S5.out⟩
          case measure => simp [intOf]; omega
      · have hL0 : L.length ≤ 32 := by omega
        clear hL
        obtain ⟨c0, c1, f0, f1⟩ := S.out.box.facts
        go_wp2_with fail
        refine (below_any 8 rd A n c _ hn (by omega) S.out.rdr).mono ?_
        rintro e w5 ⟨y, hy, rfl, hr, hg⟩
        have y0 : 0 ≤ y := hy.1
        have y1 : y < 8 := by have := hy.2; omega
        have T := Lib.hid (S.out.rd_ hr hg)
        clear hy hr hg c0 c1 f0 f1 S
        go_wp2_with fail
        go_loopw [9] (fun i wr => ∃ (m : Int) (q : Value) (L : List Arc3), 0 ≤ m ∧ m ≤ 7 ∧ i = .int .i64 m ∧ (L.length : Int) + m ≤ 40 ∧ GS w rd A n c w.heap.size gb (1 + b) q L wr) (fun i _ => (intOf i).toNat)
        case atStart => exact ⟨y, _, _, y0, by omega, rfl, by first | omega | (simp; omega), T.out⟩
        case round =>
          clear T hL0
          obtain ⟨m, q2, L2, mm0, m7, rfl, hL2, hS2⟩ := hrel
          have U := Lib.hid hS2
          clear hS2
          obtain ⟨c0, c1, f0, f1⟩ := U.out.box.facts
          by_cases e1 : 0 < m
          · by_cases e2 : 1 < 1 + b
            · go_wp2_with fail
              refine (below_any (1 + b) rd A n c _ hn (by omega) U.out.rdr).mono ?_
              rintro e w6 ⟨u, hu, rfl, hr, hg⟩
              have u0 : 0 ≤ u := hu.1
              have u1 : u < 16 := by have := hu.2; omega
              have U1 := Lib.hid (U.out.rd_ hr hg)
              clear hu hr hg c0 c1 f0 f1 U
              obtain ⟨c0, c1, f0, f1⟩ := U1.out.box.facts
              go_wp2_with fail
              refine (below_any (1 + b) rd A n c _ hn (by omega) U1.out.rdr).mono ?_
              rintro e w7 ⟨v, hv, rfl, hr, hg⟩
              have v0 : 0 ≤ v := hv.1
              have v1 : v < 16 := by have := hv.2; omega
              have U2 := Lib.hid (U1.out.rd_ hr hg)
              clear hv hr hg c0 c1 f0 f1 U1
              obtain ⟨AA, cc, rfl, hAA, _⟩ := U2.out.own.shape
              clear hAA
              obtain ⟨c0, c1, f0, f1⟩ := U2.out.box.facts
              by_cases e3 : (u != v) = true
              · go_wp2_with fail
                go_region_with (first
                  | (go_at_call 80; refine (below_any 12 rd A n c _ hn (by omega) ((U2.out.bl_ (by repeat' (first | exact Bl.refl _ | with_reducible assumption | with_reducible refine Bl.drew_ ?_ | with_reducible refine Bl.drewN_ ?_ _ | with_reducible refine Bl.alloc_ ?_ _ | with_reducible refine Bl.trans_ ?_ (by assumption) | with_reducible refine Bl.trans_ ?_ (And.left (by assumption))))).rdr)).mono ?_; rintro e w8 ⟨z, hz, rfl, hr, hg⟩; have z0 : 0 ≤ z := hz.1; have z1 : z < 12 := (by have := hz.2; omega); have U3 := Lib.hid ((U2.out.bl_ (by repeat' (first | exact Bl.refl _ | with_reducible assumption | with_reducible refine Bl.drew_ ?_ | with_reducible refine Bl.drewN_ ?_ _ | with_reducible refine Bl.alloc_ ?_ _ | with_reducible refine Bl.trans_ ?_ (by assumption) | with_reducible refine Bl.trans_ ?_ (And.left (by assumption))))).rd_ hr hg); clear hz hr hg; obtain ⟨d0, d1, k0, k1⟩ := U3.out.box.facts)
                  | (go_at_call 82; obtain ⟨_, _, hq, hAA, _⟩ := U3.out.own.shape; injection hq with q1 _ q3; subst q1; subst q3; refine (l1Put_any _ _ _ _ _ _ L2 rfl _ (by omega) hAA).mono ?_; rintro e w9 ⟨v4, rfl, ho, hb⟩; obtain ⟨AB, cb, rfl, _, _⟩ := ho.shape; have P := putL_len (u, v, 1 + z) L2; have U4 := Lib.hid ((U3.out.bl_ hb).put (ho.low (World.rowIs.lt U3.out.box))); clear d0 d1 k0 k1; obtain ⟨d0, d1, k0, k1⟩ := (U3.out.bl_ hb).box.facts; clear hAA ho hb))
                all_goals (go_wp2; go_roundw)
                all_goals (first | (case measure => (simp [intOf]; omega)) | skip)
                all_goals (refine ⟨m - 1, .slice AB (putL (u, v, 1 + z) L2).length cb, putL (u, v, 1 + z) L2, by omega, by omega, by go_num, by omega, by have hw : IntKind.i64.wrap (1 + z) = 1 + z := IntWalk.i64_in _ (by omega); have X := U4.out; rw [hw] at X; exact X⟩)
              · have e3' : (u != v) = false := by simpa using e3
                clear e3
                go_wp2_with fail
                go_roundw
                case rel => exact ⟨m - 1, _, L2, by omega, by omega, by go_num, by omega, U2.out⟩
                case measure => simp [intOf]; omega
            · skip
              obtain ⟨AV, cv, rfl, hAV, _⟩ := U.out.own.shape
              clear hAV
              go_wp2_with fail
              refine (once_any 60 rd A n c _ hn (by omega) (by omega) U.out.rdr).mono ?_
              rintro e w8 ⟨t3, rfl, hr, hg⟩
              have V := Lib.hid (U.out.rd_ hr hg)
              clear hr hg c0 c1 f0 f1 U
              cases t3 with
              | true =>
                go_wp2_with fail
                refine (off_any 1 24 rd A n c _ hn (by omega) (by omega) (by omega) (by omega) V.out.rdr).mono ?_
                rintro e w9 ⟨N9, hN9, rfl, hr, hg⟩
                have W := Lib.hid (V.out.rd_ hr hg)
                obtain ⟨c0, c1, f0, f1⟩ := W.out.box.facts
                obtain ⟨r0, r1, fr0, fr1⟩ := W.out.res.facts
                have nb : gb ≠ w.heap.size := by have := W.out.lo2; omega
                have nb' : w.heap.size ≠ gb := by omega
                go_wp2
                refine bodyPost_ret (v := .agg #[.int .i64 N9, .slice AV L2.length cv]) (by simp [results, Try.results54, go_sem, r0, r1, fr0, fr1, nb, nb']) rfl ?_
                exact GS.fin (W.out.num N9) hN9 (by omega) _ _
              | false =>
                obtain ⟨c0, c1, f0, f1⟩ := V.out.box.facts
                obtain ⟨r0, r1, fr0, fr1⟩ := V.out.res.facts
                have nb : gb ≠ w.heap.size := by have := V.out.lo2; omega
                have nb' : w.heap.size ≠ gb := by omega
                go_wp2
                refine bodyPost_ret (v := .agg #[.int .i64 (1 + b), .slice AV L2.length cv]) (by simp [results, Try.results54, go_sem, r0, r1, fr0, fr1, nb, nb']) rfl ?_
                exact GS.fin (V.out) ⟨by omega, by omega⟩ (by omega) _ _
          · skip
            obtain ⟨AV, cv, rfl, hAV, _⟩ := U.out.own.shape
            clear hAV
            go_wp2_with fail
            refine (once_any 60 rd A n c _ hn (by omega) (by omega) U.out.rdr).mono ?_
            rintro e w8 ⟨t3, rfl, hr, hg⟩
            have V := Lib.hid (U.out.rd_ hr hg)
            clear hr hg c0 c1 f0 f1 U
            cases t3 with
            | true =>
              go_wp2_with fail
              refine (off_any 1 24 rd A n c _ hn (by omega) (by omega) (by omega) (by omega) V.out.rdr).mono ?_
              rintro e w9 ⟨N9, hN9, rfl, hr, hg⟩
              have W := Lib.hid (V.out.rd_ hr hg)
              obtain ⟨c0, c1, f0, f1⟩ := W.out.box.facts
              obtain ⟨r0, r1, fr0, fr1⟩ := W.out.res.facts
              have nb : gb ≠ w.heap.size := by have := W.out.lo2; omega
              have nb' : w.heap.size ≠ gb := by omega
              go_wp2
              refine bodyPost_ret (v := .agg #[.int .i64 N9, .slice AV L2.length cv]) (by simp [results, Try.results54, go_sem, r0, r1, fr0, fr1, nb, nb']) rfl ?_
              exact GS.fin (W.out.num N9) hN9 (by omega) _ _
            | false =>
              obtain ⟨c0, c1, f0, f1⟩ := V.out.box.facts
              obtain ⟨r0, r1, fr0, fr1⟩ := V.out.res.facts
              have nb : gb ≠ w.heap.size := by have := V.out.lo2; omega
              have nb' : w.heap.size ≠ gb := by omega
              go_wp2
              refine bodyPost_ret (v := .agg #[.int .i64 (1 + b), .slice AV L2.length cv]) (by simp [results, Try.results54, go_sem, r0, r1, fr0, fr1, nb, nb']) rfl ?_
              exact GS.fin (V.out) ⟨by omega, by omega⟩ (by omega) _ _

end Go.Proofs.Ytjmooakjdcepcaa

set_option linter.unusedSimpArgs false
set_option linter.unusedVariables false
namespace Go.Proofs.Ytjmooakjdcepcaa
open Go.RowKit

theorem BytesAt.lt' {w : World} {A : Option Addr} {n : Nat} (h : BytesAt w A n) : 0 < n → ∀ g off, A = some ⟨g, off, none⟩ → g < w.heap.size := fun h0 g off e => by
  obtain ⟨g', off', e', hlt, -⟩ := h h0
  rw [e] at e'
  injection e' with e'
  injection e' with e1
  omega
/-- A graph and a node that are drawn by a code. -/
def DrawnG1 (w : World) (e : Ending) (w' : World) : Prop :=
  ∃ (N : Int) (A' : Option Addr) (l c' : Nat) (L : List Arc3) (s : Int), e = .returned (.tuple #[.agg #[.int .i64 N, .slice A' l c'], .int .i64 s]) ∧ Drawn w.heap.size w' N A' l c' L ∧ In64 s ∧ Bl w w'
def DrawnG2 (w : World) (e : Ending) (w' : World) : Prop :=
  ∃ (N : Int) (A' : Option Addr) (l c' : Nat) (L : List Arc3) (s t : Int), e = .returned (.tuple #[.agg #[.int .i64 N, .slice A' l c'], .int .i64 s, .int .i64 t]) ∧ Drawn w.heap.size w' N A' l c' L ∧ In64 s ∧ In64 t ∧ Bl w w'
theorem Drawn.far {B : Nat} {w w' : World} {N : Int} {A' : Option Addr} {l c' : Nat} {L : List Arc3} (h : Drawn B w N A' l c' L) {rd : Nat} (hg : w.grownBy w' (some rd)) (hr : rd < B) : Drawn B w' N A' l c' L :=
  ⟨h.1, h.2.1, h.2.2.1, h.2.2.2.grown_ hg (fun g e => by injection e with e; omega)⟩
theorem Drawn.low {B B' : Nat} {w : World} {N : Int} {A' : Option Addr} {l c' : Nat} {L : List Arc3} (h : Drawn B w N A' l c' L) (hB : B' ≤ B) : Drawn B' w N A' l c' L :=
  ⟨h.1, h.2.1, h.2.2.1, h.2.2.2.low hB⟩
theorem Drawn.bl {B : Nat} {w w' : World} {N : Int} {A' : Option Addr} {l c' : Nat} {L : List Arc3} (h : Drawn B w N A' l c' L) (hb : Bl w w') : Drawn B w' N A' l c' L :=
  ⟨h.1, h.2.1, h.2.2.1, OwnA.bl h.2.2.2 hb⟩
theorem Drawn.arcs {B : Nat} {w : World} {N : Int} {A' : Option Addr} {l c' : Nat} {L : List Arc3} (h : Drawn B w N A' l c' L) : ArcsAt w w.heap.size A' L ∧ l ≤ c' := by
  obtain ⟨h1, h2, h3, h4⟩ := h
  obtain ⟨AA, cc, e, ha, -⟩ := h4.shape
  injection e with e1 e2 e3
  refine ⟨by rw [e1]; exact ha, ?_⟩
  have h' : w.ownsRow B 63 3 (.slice A' l c') L.length (cs3 L) := h4
  rcases h'.2 with ⟨e, h0⟩ | ⟨g, cap, cur, e, hB, hg, hnc, -⟩
  · injection e with e1 e2 e3
    omega
  · injection e with e1 e2 e3
    omega

set_option maxRecDepth 100000 in
set_option maxHeartbeats 1000000 in
theorem drawDistFrom_any (A : Option Addr) (n c : Nat) (w : World) (hn : n ≤ 1099511627776) (H : BytesAt w A n) :
    Calls Try.prog 44 #[.slice A n c] w (DrawnG1 w) := by
  have K := Lib.hid H
  clear H
  go_enter Try.func44, Try.ntmps44
  go_wp2_with fail
  refine (open_any A n c _ (K.out.bl (by repeat' (first | exact Bl.refl _ | with_reducible assumption | with_reducible refine Bl.drew_ ?_ | with_reducible refine Bl.drewN_ ?_ _ | with_reducible refine Bl.alloc_ ?_ _ | with_reducible refine Bl.trans_ ?_ (by assumption) | with_reducible refine Bl.trans_ ?_ (And.left (by assumption)))))).mono ?_
  rintro e w1 ⟨rfl, hr, hb, hlt⟩
  have R1 := Lib.hid (show RdAny w1 (w.heap.size + 1) A n c from by rw [World.size_alloc] at hr; exact hr)
  have B1 := Lib.hid hb
  have s1 := hb.size
  simp only [World.size_alloc] at s1 hlt
  clear hr hb
  go_wp2_with fail
  refine (graph_any 10 (w.heap.size + 1) A n c _ hn (by omega) (by omega) R1.out (fun h0 g off e => by have := K.out.lt' h0 g off e; omega)).mono ?_
  rintro e w2 ⟨N, A', l, c', L, rfl, hd, hr, hg⟩
  have D2 := Lib.hid hd
  have R2 := Lib.hid hr
  have G2 := Lib.hid hg
  have hN := hd.2.2.1
  have s2 := hg.size
  clear hd hr hg
  have B2 := Lib.hid (show Bl (w.alloc (.cells #[.int .i64 0, .slice none 0 0] 26)) w2 from B1.out.grown_ G2.out (fun g e => by injection e with e; simp; omega))
  have R3 := Lib.hid (R2.out.bl (Bl.alloc_ (Bl.refl w2) (.cells #[.int .i64 N, .slice A' l c'] 26)))
  have HSH := Lib.hid (show ∀ wx, (w2.alloc (.cells #[.int .i64 N, .slice A' l c'] 26)).grownBy wx (some (w.heap.size + 1)) → (w2.alloc (.cells #[.int .i64 N, .slice A' l c'] 26)).grownBy wx (some (w.heap.size + 1)) ∧ wx.cell? ⟨w2.heap.size, 0, none⟩ = some (.int .i64 N) ∧ wx.cell? ⟨w2.heap.size, 1, none⟩ = some (.slice A' l c') from fun wx h =>
    ⟨h, h.cell (by simp [go_sem]) (by simp; omega), h.cell (by simp [go_sem]) (by simp; omega)⟩)
  have hN0 := hN.1
  have hN1 := hN.2
  have RES := Lib.hid (show Two (w2.alloc (.cells #[.int .i64 N, .slice A' l c'] 26)) w.heap.size (.int .i64 0) (.slice none 0 0) from ((Two.new w _ _).bl B2.out).bl (Bl.alloc_ (Bl.refl _) _))
  have nb : w2.heap.size ≠ w.heap.size := by omega
  have nb' : w.heap.size ≠ w2.heap.size := by omega
  go_wp2_with fail
  refine wp_region_held_drew (S := fun wx => wx.cell? ⟨w2.heap.size, 0, none⟩ = some (.int .i64 N) ∧ wx.cell? ⟨w2.heap.size, 1, none⟩ = some (.slice A' l c')) (by kernel_rfl) ?_ (fun hHeld => ?_)
  · (first | exact (HSH.out _ hGG).2 | (refine ⟨?_, ?_⟩ <;> (simp [go_sem, nb, nb', *]; done)))
  refine wpAnyH_take (i := 0) (v := ?_) rfl (by kernel_rfl) (by kernel_rfl) (by kernel_rfl) (fun _ _ _ h => h) (Or.inl ⟨by kernel_rfl, ?_⟩) (by assumption) ?_
  rotate_left
  · (intro wx hSw; (try dsimp only at hSw); go_simp; try (with_reducible rfl))
  try simp only [Act.put, List.getElem_toArray, List.getElem_cons_succ, List.getElem_cons_zero, List.setIfInBounds_toArray, List.set_cons_zero, List.set_cons_succ]
  refine wpAnyH_take (i := 1) (v := ?_) rfl (by kernel_rfl) (by kernel_rfl) (by kernel_rfl) (fun _ _ _ h => h) (Or.inl ⟨by kernel_rfl, ?_⟩) (by assumption) ?_
  rotate_left
  · (intro wx hSw; (try dsimp only at hSw); go_simp; try (with_reducible rfl))
  try simp only [Act.put, List.getElem_toArray, List.getElem_cons_succ, List.getElem_cons_zero, List.setIfInBounds_toArray, List.set_cons_zero, List.set_cons_succ]
  refine wpAnyH_take (i := 2) (v := ?_) rfl (by kernel_rfl) (by kernel_rfl) (by kernel_rfl) (fun _ _ _ h => h) (Or.inl ⟨by kernel_rfl, ?_⟩) (by assumption) ?_
  rotate_left
  · (intro wx hSw; (try dsimp only at hSw); go_simp; try (with_reducible rfl))
  try simp only [Act.put, List.getElem_toArray, List.getElem_cons_succ, List.getElem_cons_zero, List.setIfInBounds_toArray, List.set_cons_zero, List.set_cons_succ]
  refine wpAnyH_ready (rs := [3]) (by kernel_rfl) (by simp) ?_
  refine AllReadyH.cons rfl (fun K hK => ?_) AllReadyH.nil
  go_simp
  (go_at_call 55; refine (node_any N _ (w.heap.size + 1) A n c _ hn hN0 hN1 (R3.out.bl (by repeat' (first | exact Bl.refl _ | with_reducible assumption | with_reducible refine Bl.drew_ ?_ | with_reducible refine Bl.drewN_ ?_ _ | with_reducible refine Bl.alloc_ ?_ _ | with_reducible refine Bl.trans_ ?_ (by assumption) | with_reducible refine Bl.trans_ ?_ (And.left (by assumption)))))).mono ?_; rintro e w3 ⟨x, hx, rfl, hr, hg⟩; have hGG := grown_trans (bl_grown (show Bl (w2.alloc (.cells #[.int .i64 N, .slice A' l c'] 26)) _ from (by repeat' (first | exact Bl.refl _ | with_reducible assumption | with_reducible refine Bl.drew_ ?_ | with_reducible refine Bl.drewN_ ?_ _ | with_reducible refine Bl.alloc_ ?_ _ | with_reducible refine Bl.trans_ ?_ (by assumption) | with_reducible refine Bl.trans_ ?_ (And.left (by assumption))))) _) hg; obtain ⟨r0, r1, fr0, fr1⟩ := Two.facts ((RES.out).grown_ hGG (by simp)))
  try (go_wp2_with fail)
  refine hK.out _ _ ?_ (fun hHeld => ?_)
  · (first | exact (HSH.out _ hGG).2 | (refine ⟨?_, ?_⟩ <;> (simp [go_sem, nb, nb', *]; done)))
  clear hK K
  try simp only [Act.put, List.getElem_toArray, List.getElem_cons_succ, List.getElem_cons_zero, List.setIfInBounds_toArray, List.set_cons_zero, List.set_cons_succ]
  refine wpAnyH_ready (rs := [4]) (by kernel_rfl) (by simp) ?_
  refine AllReadyH.cons rfl (fun K hK => ?_) AllReadyH.nil
  go_simp
  refine hK.out _ _ ?_ (fun hHeld => ?_)
  · (first | exact (HSH.out _ hGG).2 | (refine ⟨?_, ?_⟩ <;> (simp [go_sem, nb, nb', *]; done)))
  clear hK K
  try simp only [Act.put, List.getElem_toArray, List.getElem_cons_succ, List.getElem_cons_zero, List.setIfInBounds_toArray, List.set_cons_zero, List.set_cons_succ]
  refine wpAnyH_take (i := 5) (v := ?_) rfl (by kernel_rfl) (by kernel_rfl) (by kernel_rfl) (fun _ _ _ h => h) (Or.inl ⟨by kernel_rfl, ?_⟩) (by assumption) ?_
  rotate_left
  · (intro wx hSw; (try dsimp only at hSw); go_simp; try (with_reducible rfl))
  try simp only [Act.put, List.getElem_toArray, List.getElem_cons_succ, List.getElem_cons_zero, List.setIfInBounds_toArray, List.set_cons_zero, List.set_cons_succ]
  refine wpAnyH_done (by kernel_rfl) ?_ _
  go_wp2
  refine bodyPost_ret (v := .tuple #[.agg #[.int .i64 N, .slice A' l c'], .int .i64 x]) (by simp [results, Try.results44, go_sem, r0, r1, fr0, fr1]) rfl ?_
  have D3 := (D2.out.bl (Bl.alloc_ (Bl.refl w2) (.cells #[.int .i64 N, .slice A' l c'] 26))).far hGG (by omega)
  have B3 : Bl w w3 := ((((Bl.alloc_ (Bl.refl w) _).trans_ B2.out).alloc_ (.cells #[.int .i64 N, .slice A' l c'] 26)).grown_ hGG (fun g e => by injection e with e; omega))
  exact ⟨N, A', l, c', L, x, rfl, ⟨D3.1, D3.2.1, D3.2.2.1, ((D3.2.2.2.set_ (by show w.heap.size < w1.heap.size; omega) _).set_ (by show w.heap.size < w1.heap.size; omega) _).low (by omega)⟩, hx, (B3.set_ (Nat.le_refl _) _).set_ (Nat.le_refl _) _⟩

-- (drawOuts_any left out)

-- (drawDistOf_any left out)

end Go.Proofs.Ytjmooakjdcepcaa

set_option linter.unusedSimpArgs false
set_option linter.unusedVariables false
namespace Go.Proofs.Ytjmooakjdcepcaa
open Go.RowKit

/-- A graph that is drawn by a code. -/
def DrawnG0 (w : World) (e : Ending) (w' : World) : Prop :=
  ∃ (N : Int) (A' : Option Addr) (l c' : Nat) (L : List Arc3), e = .returned (.agg #[.int .i64 N, .slice A' l c']) ∧ Drawn w.heap.size w' N A' l c' L ∧ Bl w w'

set_option maxRecDepth 100000 in
set_option maxHeartbeats 1000000 in
theorem drawReachOf_any (A : Option Addr) (n c : Nat) (w : World) (hn : n ≤ 1099511627776) (H : BytesAt w A n) :
    Calls Try.prog 39 #[.slice A n c] w (DrawnG0 w) := by
  have K := Lib.hid H
  clear H
  go_enter Try.func39, Try.ntmps39
  go_wp2_with fail
  refine (open_any A n c _ (K.out.bl (by repeat' (first | exact Bl.refl _ | with_reducible assumption | with_reducible refine Bl.drew_ ?_ | with_reducible refine Bl.drewN_ ?_ _ | with_reducible refine Bl.alloc_ ?_ _ | with_reducible refine Bl.trans_ ?_ (by assumption) | with_reducible refine Bl.trans_ ?_ (And.left (by assumption)))))).mono ?_
  rintro e w1 ⟨rfl, hr, hb, hlt⟩
  have R1 := Lib.hid (show RdAny w1 (w.heap.size + 1) A n c from by rw [World.size_alloc] at hr; exact hr)
  have B1 := Lib.hid hb
  have s1 := hb.size
  simp only [World.size_alloc] at s1 hlt
  clear hr hb
  go_wp2_with fail
  refine (graph_any 8 (w.heap.size + 1) A n c _ hn (by omega) (by omega) R1.out (fun h0 g off e => by have := K.out.lt' h0 g off e; omega)).mono ?_
  rintro e w2 ⟨N, A', l, c', L, rfl, hd, hr, hg⟩
  have D2 := Lib.hid hd
  have G2 := Lib.hid hg
  have s2 := hg.size
  have B2 := Lib.hid (show Bl (w.alloc (.cells #[.int .i64 0, .slice none 0 0] 26)) w2 from B1.out.grown_ hg (fun g e => by injection e with e; simp; omega))
  obtain ⟨r0, r1, fr0, fr1⟩ := Two.facts ((Two.new w (.int .i64 0) (.slice none 0 0)).bl B2.out)
  clear hd hr hg
  go_wp2
  refine bodyPost_ret (v := .agg #[.int .i64 N, .slice A' l c']) (by simp [results, Try.results39, go_sem, r0, r1, fr0, fr1]) rfl ?_
  have D3 := D2.out
  have B3 : Bl w w2 := (Bl.alloc_ (Bl.refl w) _).trans_ B2.out
  exact ⟨N, A', l, c', L, rfl, ⟨D3.1, D3.2.1, D3.2.2.1, ((D3.2.2.2.set_ (by show w.heap.size < w1.heap.size; omega) _).set_ (by show w.heap.size < w1.heap.size; omega) _).low (by omega)⟩, (B3.set_ (Nat.le_refl _) _).set_ (Nat.le_refl _) _⟩

set_option maxRecDepth 100000 in
set_option maxHeartbeats 1000000 in
theorem drawCenter_any (A : Option Addr) (n c : Nat) (w : World) (hn : n ≤ 1099511627776) (H : BytesAt w A n) :
    Calls Try.prog 10 #[.slice A n c] w (DrawnG0 w) := by
  have K := Lib.hid H
  clear H
  go_enter Try.func10, Try.ntmps10
  go_wp2_with fail
  refine (drawReachOf_any A n c _ hn (K.out.bl (by repeat' (first | exact Bl.refl _ | with_reducible assumption | with_reducible refine Bl.drew_ ?_ | with_reducible refine Bl.drewN_ ?_ _ | with_reducible refine Bl.alloc_ ?_ _ | with_reducible refine Bl.trans_ ?_ (by assumption) | with_reducible refine Bl.trans_ ?_ (And.left (by assumption)))))).mono ?_
  rintro e w1 ⟨N, A', l, c', L, rfl, hd, hb⟩
  have D := Lib.hid hd
  have B := Lib.hid hb
  obtain ⟨r0, r1, fr0, fr1⟩ := Two.facts ((Two.new w (.int .i64 0) (.slice none 0 0)).bl hb)
  have sz := hb.size
  simp only [World.size_alloc] at sz
  clear hd hb
  go_wp2
  refine bodyPost_ret (v := .agg #[.int .i64 N, .slice A' l c']) (by simp [results, Try.results10, go_sem, r0, r1, fr0, fr1]) rfl ?_
  have DD := D.out
  rw [World.size_alloc] at DD
  exact ⟨N, A', l, c', L, rfl, ⟨DD.1, DD.2.1, DD.2.2.1, ((DD.2.2.2.set_ (by show w.heap.size < w.heap.size + 1; omega) _).set_ (by show w.heap.size < w.heap.size + 1; omega) _).low (by omega)⟩, (((Bl.alloc_ (Bl.refl w) _).trans_ B.out).set_ (Nat.le_refl _) _).set_ (Nat.le_refl _) _⟩

set_option maxRecDepth 100000 in
set_option maxHeartbeats 1000000 in
theorem drawSpread_any (A : Option Addr) (n c : Nat) (w : World) (hn : n ≤ 1099511627776) (H : BytesAt w A n) :
    Calls Try.prog 12 #[.slice A n c] w (DrawnG1 w) := by
  have K := Lib.hid H
  clear H
  go_enter Try.func12, Try.ntmps12
  go_wp2_with fail
  refine (drawDistFrom_any A n c _ hn (K.out.bl (by repeat' (first | exact Bl.refl _ | with_reducible assumption | with_reducible refine Bl.drew_ ?_ | with_reducible refine Bl.drewN_ ?_ _ | with_reducible refine Bl.alloc_ ?_ _ | with_reducible refine Bl.trans_ ?_ (by assumption) | with_reducible refine Bl.trans_ ?_ (And.left (by assumption)))))).mono ?_
  rintro e w1 ⟨N, A', l, c', L, s, rfl, hd, hs, hb⟩
  have D := Lib.hid hd
  have S1 := Lib.hid hs
  have B := Lib.hid hb
  obtain ⟨r0, r1, fr0, fr1⟩ := Two.facts ((Two.new w (.int .i64 0) (.slice none 0 0)).bl hb)
  have sz := hb.size
  simp only [World.size_alloc] at sz
  clear hd hs hb
  go_wp2
  refine bodyPost_ret (v := .tuple #[.agg #[.int .i64 N, .slice A' l c'], .int .i64 s]) (by simp [results, Try.results12, go_sem, r0, r1, fr0, fr1]) rfl ?_
  have DD := D.out
  rw [World.size_alloc] at DD
  exact ⟨N, A', l, c', L, s, rfl, ⟨DD.1, DD.2.1, DD.2.2.1, ((DD.2.2.2.set_ (by show w.heap.size < w.heap.size + 1; omega) _).set_ (by show w.heap.size < w.heap.size + 1; omega) _).low (by omega)⟩, S1.out, (((Bl.alloc_ (Bl.refl w) _).trans_ B.out).set_ (Nat.le_refl _) _).set_ (Nat.le_refl _) _⟩

set_option maxRecDepth 100000 in
set_option maxHeartbeats 1000000 in
theorem drawReachedFrom_any (A : Option Addr) (n c : Nat) (w : World) (hn : n ≤ 1099511627776) (H : BytesAt w A n) :
    Calls Try.prog 18 #[.slice A n c] w (DrawnG1 w) := by
  have K := Lib.hid H
  clear H
  go_enter Try.func18, Try.ntmps18
  go_wp2_with fail
  refine (drawDistFrom_any A n c _ hn (K.out.bl (by repeat' (first | exact Bl.refl _ | with_reducible assumption | with_reducible refine Bl.drew_ ?_ | with_reducible refine Bl.drewN_ ?_ _ | with_reducible refine Bl.alloc_ ?_ _ | with_reducible refine Bl.trans_ ?_ (by assumption) | with_reducible refine Bl.trans_ ?_ (And.left (by assumption)))))).mono ?_
  rintro e w1 ⟨N, A', l, c', L, s, rfl, hd, hs, hb⟩
  have D := Lib.hid hd
  have S1 := Lib.hid hs
  have B := Lib.hid hb
  obtain ⟨r0, r1, fr0, fr1⟩ := Two.facts ((Two.new w (.int .i64 0) (.slice none 0 0)).bl hb)
  have sz := hb.size
  simp only [World.size_alloc] at sz
  clear hd hs hb
  go_wp2
  refine bodyPost_ret (v := .tuple #[.agg #[.int .i64 N, .slice A' l c'], .int .i64 s]) (by simp [results, Try.results18, go_sem, r0, r1, fr0, fr1]) rfl ?_
  have DD := D.out
  rw [World.size_alloc] at DD
  exact ⟨N, A', l, c', L, s, rfl, ⟨DD.1, DD.2.1, DD.2.2.1, ((DD.2.2.2.set_ (by show w.heap.size < w.heap.size + 1; omega) _).set_ (by show w.heap.size < w.heap.size + 1; omega) _).low (by omega)⟩, S1.out, (((Bl.alloc_ (Bl.refl w) _).trans_ B.out).set_ (Nat.le_refl _) _).set_ (Nat.le_refl _) _⟩

end Go.Proofs.Ytjmooakjdcepcaa

set_option linter.unusedSimpArgs false
set_option linter.unusedVariables false
namespace Go.Proofs.Ytjmooakjdcepcaa
open Go.RowKit

theorem onST_turned {N : Int} {L : List Arc3} (ho : okB N L = true) {v : Int} (hv : 0 ≤ v ∧ v < N) {x : Int} (h : OnST N L v x) : OnST N (revL L) v x := by
  obtain ⟨s, t, hs, ht, h1, h2, h3, rfl⟩ := h
  have hs' : (0 : Int) ≤ (s : Int) ∧ (s : Int) < N := by omega
  have ht' : (0 : Int) ≤ (t : Int) ∧ (t : Int) < N := by omega
  have e1 := distL_of_turned (s := v) (t := (t : Int)) ho hv ht'
  have e2 := distL_of_turned (s := (s : Int)) (t := v) ho hs' hv
  have e3 := distL_of_turned (s := (s : Int)) (t := (t : Int)) ho hs' ht'
  refine ⟨t, s, ht, hs, by rw [e1]; exact h2, by rw [e2]; exact h1, by rw [e1, e2, e3]; omega, ?_⟩
  rw [e1, e2, Int.min_comm]
theorem reachL_turned {N : Int} {L : List Arc3} (ho : okB N L = true) : reachL N (revL L) = reachL N L := by
  have hr := revL_ok ho
  unfold reachL
  rw [if_pos ho, if_pos hr]
  refine List.ext_getElem (by rw [reachS_len, reachS_len]) fun i h1 h2 => ?_
  rw [reachS_len] at h1
  have hv : (0 : Int) ≤ (i : Int) ∧ (i : Int) < N := by omega
  have k1 := reach_max hr (v := i) hv.2
  have k2 := reach_max ho (v := i) hv.2
  have e := k1.uniq (k2.of fun x => ⟨fun h => onST_turned ho hv h, fun h => by
    have h' := onST_turned hr hv h
    rwa [revL_revL ho] at h'⟩)
  rw [List.getD_eq_getElem?_getD, List.getD_eq_getElem?_getD, List.getElem?_eq_getElem (by rw [reachS_len]; exact h1), List.getElem?_eq_getElem (by rw [reachS_len]; exact h1)] at e
  exact e

end Go.Proofs.Ytjmooakjdcepcaa

set_option linter.unusedSimpArgs false
set_option linter.unusedVariables false
namespace Go.Proofs.Ytjmooakjdcepcaa
open Go.ChangeShapes Go.WideShapes Go.ChangeAt Go.RowKit

theorem wf_u8_bounds {b : Int} (h : (Lit.int .u8 b).wf = true) : 0 ≤ b ∧ b ≤ 255 := by
  have := bounds_u8 h
  omega
set_option maxRecDepth 100000 in
theorem open_bytes {H : Type} {enc : TypeId × Value → H} {W : World} {r : Reach} {b0 : Nat} {v : Value} {d : DataW H} {p : List MemPlace} (hv : Value.okWide Try.prog W r b0 22 v)
    (h : DataW.Trod enc Try.prog W 0 (fun _ => true) true 22 v d p) :
    ∃ (A : Option Addr) (n c : Nat), v = .slice A n c ∧ BytesAt W A n ∧ (0 < n → ∀ g, blockOf A = some g → g < W.heap.size) := by
  obtain ⟨a0, len0, cap0, rfl⟩ := okWide_slice Try.underlying22 hv
  obtain ⟨m0, ht1⟩ := h
  have key : BytesAt W a0 len0 := by
    rcases open_ints Try.underlying22 Try.underlying5 (by kernel_rfl) ht1 with ⟨hcs, _⟩ | ⟨a, len, cap, zs, hcs, _, hl, hcap, hzs, _, hcell, hwf⟩
    · have hcs' : [Value.slice a0 len0 cap0] = [.slice none 0 0] := hcs
      simp only [List.cons.injEq, and_true, Value.slice.injEq] at hcs'
      obtain ⟨rfl, rfl, rfl⟩ := hcs'
      exact fun h0 => absurd h0 (by omega)
    · have hcs' : [Value.slice a0 len0 cap0] = [.slice (some a) len cap] := hcs
      simp only [List.cons.injEq, and_true, Value.slice.injEq] at hcs'
      obtain ⟨rfl, rfl, rfl⟩ := hcs'
      intro h0
      have hz : len0 ≤ zs.length := by rw [hzs]; simp; omega
      obtain ⟨b, off, spot⟩ := a
      have hc0 := hcell 0 (by omega)
      have hspot : spot = none := by simpa [Addr.add] using World.cell?_spot hc0
      subst hspot
      refine ⟨b, off, rfl, ?_, fun j hj => ?_⟩
      · have := World.block_lt_of_cell? _ _ hc0
        simpa [Addr.add] using this
      · have hc := hcell j (by omega)
        rw [Go.WideShapes.add_plain] at hc
        refine ⟨_, hc, wf_u8_bounds (hwf _ ?_)⟩
        rw [List.getD_eq_getElem?_getD, List.getElem?_eq_getElem (by omega)]
        exact List.getElem_mem _
  exact ⟨a0, len0, cap0, rfl, key, fun h0 g hg => by
    obtain ⟨g', off, rfl, hlt, _⟩ := key h0
    simp [blockOf] at hg
    omega⟩

end Go.Proofs.Ytjmooakjdcepcaa

set_option linter.unusedSimpArgs false
set_option linter.unusedVariables false
namespace Go.Proofs.Ytjmooakjdcepcaa
open Go.RowKit

set_option maxHeartbeats 400000 in
theorem sameInts_yes (A1 A2 : Option Addr) (c1 c2 : Nat) (V : List Int) (n : Nat) (hn : n = V.length) (w : World) (hm : n ≤ 9223372036854775807) (H1 : IntsAt w w.heap.size A1 V) (H2 : IntsAt w w.heap.size A2 V) :
    Calls Try.prog 19 #[.slice A1 n c1, .slice A2 n c2] w fun e w' => e = .returned (.bool true) ∧ Bl w w' := by
  have K1 := Lib.hid H1
  have K2 := Lib.hid H2
  have HN := Lib.hid hn
  have hnn : ((n : Int) != (n : Int)) = false := by simp
  clear H1 H2 hn
  go_enter Try.func19, Try.ntmps19
  go_wp2
  go_loopw [5] (fun i wr => ∃ k : Nat, k ≤ n ∧ i = .int .i64 k ∧ Bl w wr) (fun i _ => n - (intOf i).toNat)
  case atStart => exact ⟨0, by omega, rfl, Bl.refl w⟩
  case round =>
    obtain ⟨k, hk, rfl, hbl⟩ := hrel
    by_cases hlt : k < n
    · have hkl : k < V.length := by have := HN.out; omega
      obtain ⟨g1, o1, rfl, hg1, hc1⟩ := K1.out.cell (by omega)
      obtain ⟨g2, o2, rfl, hg2, hc2⟩ := K2.out.cell (by omega)
      have p1 := hc1 k hkl
      have p2 := hc2 k hkl
      clear hc1 hc2
      rw [← (bcell hbl).1 _ _ hg1] at p1
      rw [← (bcell hbl).1 _ _ hg2] at p2
      generalize V[k] = x at p1 p2
      have hxx : (x != x) = false := by simp
      have i1 : (0 : Int) ≤ (k : Int) := by omega
      have i2 : (k : Int) < (n : Int) := by omega
      go_wp2
      go_quiet (fail)
      go_wp2
      go_roundw
      case rel => exact ⟨k + 1, by omega, by go_num, (by repeat' (first | exact Bl.refl _ | with_reducible assumption | with_reducible refine Bl.drew_ ?_ | with_reducible refine Bl.drewN_ ?_ _ | with_reducible refine Bl.alloc_ ?_ _ | with_reducible refine Bl.trans_ ?_ (by assumption) | with_reducible refine Bl.trans_ ?_ (And.left (by assumption))))⟩
      case measure => simp [intOf]; omega
    · go_wp2
      go_ret
      exact ⟨rfl, hbl⟩

set_option maxHeartbeats 400000 in
theorem sameArcs_yes (A1 A2 : Option Addr) (c1 c2 : Nat) (L : List Arc3) (n : Nat) (hn : n = L.length) (w : World) (hm : n ≤ 9223372036854775807) (H1 : ArcsAt w w.heap.size A1 L) (H2 : ArcsAt w w.heap.size A2 L) :
    Calls Try.prog 62 #[.slice A1 n c1, .slice A2 n c2] w fun e w' => e = .returned (.bool true) ∧ Bl w w' := by
  have K1 := Lib.hid H1
  have K2 := Lib.hid H2
  have HN := Lib.hid hn
  have hnn : ((n : Int) != (n : Int)) = false := by simp
  clear H1 H2 hn
  go_enter Try.func62, Try.ntmps62
  go_wp2
  go_loopw [5] (fun i wr => ∃ k : Nat, k ≤ n ∧ i = .int .i64 k ∧ Bl w wr) (fun i _ => n - (intOf i).toNat)
  case atStart => exact ⟨0, by omega, rfl, Bl.refl w⟩
  case round =>
    obtain ⟨k, hk, rfl, hbl⟩ := hrel
    by_cases hlt : k < n
    · have hkl : k < L.length := by have := HN.out; omega
      obtain ⟨g1, o1, rfl, hg1, hc1⟩ := K1.out (by omega)
      obtain ⟨g2, o2, rfl, hg2, hc2⟩ := K2.out (by omega)
      obtain ⟨p1, p2, p3⟩ := hc1 k hkl
      obtain ⟨q1, q2, q3⟩ := hc2 k hkl
      clear hc1 hc2
      rw [← (bcell hbl).1 _ _ hg1] at p1 p2 p3
      rw [← (bcell hbl).1 _ _ hg2] at q1 q2 q3
      generalize L[k].1 = x at p1 q1
      generalize L[k].2.1 = y at p2 q2
      generalize L[k].2.2 = z at p3 q3
      have e1 : (x == x) = true := by simp
      have e2 : (y == y) = true := by simp
      have e3 : (z == z) = true := by simp
      have i1 : (0 : Int) ≤ (k : Int) := by omega
      have i2 : (k : Int) < (n : Int) := by omega
      go_wp2
      go_quiet (fail)
      go_wp2
      go_roundw
      case rel => exact ⟨k + 1, by omega, by go_num, (by repeat' (first | exact Bl.refl _ | with_reducible assumption | with_reducible refine Bl.drew_ ?_ | with_reducible refine Bl.drewN_ ?_ _ | with_reducible refine Bl.alloc_ ?_ _ | with_reducible refine Bl.trans_ ?_ (by assumption) | with_reducible refine Bl.trans_ ?_ (And.left (by assumption))))⟩
      case measure => simp [intOf]; omega
    · go_wp2
      go_ret
      exact ⟨rfl, hbl⟩

set_option maxHeartbeats 400000 in
theorem sameGraph_yes (N : Int) (A1 A2 : Option Addr) (c1 c2 : Nat) (L : List Arc3) (n : Nat) (hn : n = L.length) (w : World) (hm : n ≤ 9223372036854775807) (H1 : ArcsAt w w.heap.size A1 L) (H2 : ArcsAt w w.heap.size A2 L) :
    Calls Try.prog 30 #[.agg #[.int .i64 N, .slice A1 n c1], .agg #[.int .i64 N, .slice A2 n c2]] w fun e w' => e = .returned (.bool true) ∧ Bl w w' := by
  have K1 := Lib.hid H1
  have K2 := Lib.hid H2
  have HN := Lib.hid hn
  have hnn : (N == N) = true := by simp
  clear H1 H2 hn
  go_enter Try.func30, Try.ntmps30
  go_wp2_with fail
  refine (sameArcs_yes A1 A2 c1 c2 L n HN.out _ hm (K1.out.bl (by repeat' (first | exact Bl.refl _ | with_reducible assumption | with_reducible refine Bl.drew_ ?_ | with_reducible refine Bl.drewN_ ?_ _ | with_reducible refine Bl.alloc_ ?_ _ | with_reducible refine Bl.trans_ ?_ (by assumption) | with_reducible refine Bl.trans_ ?_ (And.left (by assumption))))) (K2.out.bl (by repeat' (first | exact Bl.refl _ | with_reducible assumption | with_reducible refine Bl.drew_ ?_ | with_reducible refine Bl.drewN_ ?_ _ | with_reducible refine Bl.alloc_ ?_ _ | with_reducible refine Bl.trans_ ?_ (by assumption) | with_reducible refine Bl.trans_ ?_ (And.left (by assumption)))))).mono ?_
  rintro e w1 ⟨rfl, hb1⟩
  go_wp2
  go_ret
  exact ⟨rfl, (Bl.alloc_ (Bl.alloc_ (Bl.refl w) _) _).trans_ hb1⟩

set_option maxHeartbeats 400000 in
theorem nodeLaw_any (N v : Int) (A : Option Addr) (n c : Nat) (L : List Arc3) (hn : n = L.length) (w : World) (hm : n ≤ 9223372036854775807) (H1 : ArcsAt w w.heap.size A L) :
    Calls Try.prog 17 #[.agg #[.int .i64 N, .slice A n c], .int .i64 v] w fun e w' => e = .returned (.bool (has1 N L v)) ∧ Bl w w' := by
  have K1 := Lib.hid H1
  have HN := Lib.hid hn
  clear H1 hn
  cases ho : okB N L with
  | false =>
    have HO := Lib.hid ho
    clear ho
    go_enter Try.func17, Try.ntmps17
    go_wp2_with fail
    refine (specOk_any N A n c L HN.out _ hm (K1.out.bl (by repeat' (first | exact Bl.refl _ | with_reducible assumption | with_reducible refine Bl.drew_ ?_ | with_reducible refine Bl.drewN_ ?_ _ | with_reducible refine Bl.alloc_ ?_ _ | with_reducible refine Bl.trans_ ?_ (by assumption) | with_reducible refine Bl.trans_ ?_ (And.left (by assumption)))))).mono ?_
    rintro e w1 ⟨rfl, hb1⟩
    rw [HO.out]
    go_wp2
    go_ret
    exact ⟨ret_bool (by unfold has1; rw [HO.out]; rfl), (Bl.alloc_ (Bl.refl w) _).trans_ hb1⟩
  | true =>
    have HO := Lib.hid ho
    clear ho
    by_cases h0 : 0 ≤ v
    · have b0 : decide (0 ≤ v) = true := by simpa using h0
      by_cases h1 : v < N
      · have b1 : decide (v < N) = true := by simpa using h1
        go_enter Try.func17, Try.ntmps17
        go_wp2_with fail
        refine (specOk_any N A n c L HN.out _ hm (K1.out.bl (by repeat' (first | exact Bl.refl _ | with_reducible assumption | with_reducible refine Bl.drew_ ?_ | with_reducible refine Bl.drewN_ ?_ _ | with_reducible refine Bl.alloc_ ?_ _ | with_reducible refine Bl.trans_ ?_ (by assumption) | with_reducible refine Bl.trans_ ?_ (And.left (by assumption)))))).mono ?_
        rintro e w1 ⟨rfl, hb1⟩
        rw [HO.out]
        obtain ⟨q0, q1⟩ := box2 hb1
        go_wp2
        go_ret
        exact ⟨ret_bool (by unfold has1; rw [HO.out, Bool.true_and]; symm; simp; omega), (Bl.alloc_ (Bl.refl w) _).trans_ hb1⟩
      · have b1 : decide (v < N) = false := by simpa using h1
        go_enter Try.func17, Try.ntmps17
        go_wp2_with fail
        refine (specOk_any N A n c L HN.out _ hm (K1.out.bl (by repeat' (first | exact Bl.refl _ | with_reducible assumption | with_reducible refine Bl.drew_ ?_ | with_reducible refine Bl.drewN_ ?_ _ | with_reducible refine Bl.alloc_ ?_ _ | with_reducible refine Bl.trans_ ?_ (by assumption) | with_reducible refine Bl.trans_ ?_ (And.left (by assumption)))))).mono ?_
        rintro e w1 ⟨rfl, hb1⟩
        rw [HO.out]
        obtain ⟨q0, q1⟩ := box2 hb1
        go_wp2
        go_ret
        exact ⟨ret_bool (by unfold has1; rw [HO.out, Bool.true_and]; symm; simp; omega), (Bl.alloc_ (Bl.refl w) _).trans_ hb1⟩
    · have b0 : decide (0 ≤ v) = false := by simpa using h0
      go_enter Try.func17, Try.ntmps17
      go_wp2_with fail
      refine (specOk_any N A n c L HN.out _ hm (K1.out.bl (by repeat' (first | exact Bl.refl _ | with_reducible assumption | with_reducible refine Bl.drew_ ?_ | with_reducible refine Bl.drewN_ ?_ _ | with_reducible refine Bl.alloc_ ?_ _ | with_reducible refine Bl.trans_ ?_ (by assumption) | with_reducible refine Bl.trans_ ?_ (And.left (by assumption)))))).mono ?_
      rintro e w1 ⟨rfl, hb1⟩
      rw [HO.out]
      obtain ⟨q0, q1⟩ := box2 hb1
      go_wp2
      go_ret
      exact ⟨ret_bool (by unfold has1; rw [HO.out, Bool.true_and]; symm; simp; omega), (Bl.alloc_ (Bl.refl w) _).trans_ hb1⟩

end Go.Proofs.Ytjmooakjdcepcaa

set_option linter.unusedSimpArgs false
set_option linter.unusedVariables false
namespace Go.Proofs.Ytjmooakjdcepcaa
open Go.RowKit

section
variable {F : Fence} {n : Nat} {P : Program} {ops : Array Oper} {Q : Exit → Act → World → Prop} {md : Region.Mode} {S : World → Prop} {k : Nat}

/-- Does an operation wait for all others? -/
def lastB (md : Region.Mode) (ops : Array Oper) (k : Nat) : Bool := (List.range ops.size).all fun j => j == k || (match ops[k]? with | some o => o.after.any fun e => Region.binds md e && e.on == j | none => false)
theorem lastB_spec {j : Nat} {o : Oper} (h : lastB md ops k = true) (ho : ops[k]? = some o) (hj : j < ops.size) (hne : j ≠ k) : ∃ e ∈ o.after, Region.binds md e = true ∧ e.on = j := by
  unfold lastB at h
  rw [List.all_eq_true] at h
  have h1 := h j (List.mem_range.2 hj)
  rw [ho] at h1
  rw [Bool.or_eq_true] at h1
  rcases h1 with h1 | h1
  · exact absurd (by simpa using h1) hne
  · obtain ⟨i, hi, h2⟩ := Array.any_eq_true.1 h1
    rw [Bool.and_eq_true] at h2
    exact ⟨_, Array.getElem_mem hi, h2.1, by simpa using h2.2⟩
theorem ops_lt {i : Nat} {o : Oper} (h : ops[i]? = some o) : i < ops.size := (Array.getElem?_eq_some_iff.1 h).1

/-- Whatever order is picked from here on, and S holds behind every operation that is carried out. -/
def wpAnyHK (F : Fence) (n : Nat) (P : Program) (md : Region.Mode) (ops : Array Oper) (Q : Exit → Act → World → Prop) (S : World → Prop) (k : Nat) : Nat → Array Bool → Act → World → Prop
  | 0, listed, a, w => Region.ready md ops listed = [] ∧ Q .normal a w
  | fuel + 1, listed, a, w =>
    (Region.ready md ops listed = [] → Q .normal a w) ∧
    ∀ i ∈ Region.ready md ops listed, wpOpIn F n P ops Q i (fun a' w' => (i ≠ k → S w') ∧ wpAnyHK F n P md ops Q S k fuel (listed.setIfInBounds i true) a' w') a w

theorem wpAnyIn_of_heldK : ∀ (fuel : Nat) (listed : Array Bool) (a : Act) (w : World), wpAnyHK F n P md ops Q S k fuel listed a w → wpAnyIn F n P md ops Q fuel listed a w
  | 0, _, _, _, h => h
  | fuel + 1, _, _, _, h => ⟨h.1, fun i hi => wpOpIn_mono (fun a' w' h' => wpAnyIn_of_heldK fuel _ a' w' h'.2) (h.2 i hi)⟩

theorem wpAnyHK_first {i : Nat} {oi : Oper} {v : Value} (hd : noDefer ops = true) (hl : lastB md ops k = true) (hi : ops[i]? = some oi) (hsel : ∀ (j : Nat) (o : Oper) cs b, ops[j]? = some o → o.op ≠ .select cs b)
    (hQ : ∀ c a w, Q (.panic c) (a.put oi.dst v) w → Q (.panic c) a w) :
    ∀ (fuel : Nat) (listed : Array Bool) (a : Act) (w : World),
      (∀ j oj, ops[j]? = some oj → j ≠ i → listed.getD j true = false → (∀ e ∈ oj.after, Region.binds md e = true → e.on ≠ i) → oi.apart ops oj = true) →
      i ∈ Region.ready md ops listed → YieldsF P ops S oi v a → S w →
      wpAnyHK F n P md ops Q S k fuel (listed.setIfInBounds i true) (a.put oi.dst v) w → wpAnyHK F n P md ops Q S k (fuel + 1) listed a w := by
  intro fuel
  induction fuel with
  | zero =>
    intro listed a w _ hr hy hS H
    refine ⟨fun h => (by rw [h] at hr; cases hr), fun j hj => ?_⟩
    by_cases hji : j = i
    · subst hji; exact hy.wpOpIn hd hi hS ⟨fun _ => hS, H⟩
    · have := ready_mono hj hji
      rw [H.1] at this
      cases this
  | succ fuel ih =>
    intro listed a w hfree hr hy hS H
    refine ⟨fun h => (by rw [h] at hr; cases hr), fun j hj => ?_⟩
    by_cases hji : j = i
    · subst hji; exact hy.wpOpIn hd hi hS ⟨fun _ => hS, H⟩
    · have h1 := H.2 j (ready_mono hj hji)
      obtain ⟨hjun, oj, hoj, hall⟩ := mem_ready.1 hj
      have hnot : ∀ e ∈ oj.after, Region.binds md e = true → e.on ≠ i := fun e he hb heq => by
        have h1 := hall e he hb
        have h0 := (mem_ready.1 hr).1
        rw [heq] at h1
        rcases Nat.lt_or_ge i listed.size with h' | h'
        · simp [h'] at h0 h1; rw [h0] at h1; cases h1
        · simp [Array.getElem?_eq_none h'] at h1
      have h2 := wpOpIn_putF hd hoj (hfree j oj hoj hji hjun hnot) (fun cs b => hsel i oi cs b hi) (fun cs b => hsel j oj cs b hoj) hQ hy h1
      have hfree' : ∀ k ok, ops[k]? = some ok → k ≠ i → (listed.setIfInBounds j true).getD k true = false →
          (∀ e ∈ ok.after, Region.binds md e = true → e.on ≠ i) → oi.apart ops ok = true := fun k ok hk hki hun hno => by
        refine hfree k ok hk hki ?_ hno
        by_cases hjk : j = k
        · subst hjk; exact hjun
        · rw [getD_set_ne true hjk] at hun; exact hun
      have hjk : j ≠ k := fun e => by
        subst e
        obtain ⟨e, he, hb, heq⟩ := lastB_spec hl hoj (ops_lt hi) (Ne.symm hji)
        exact hnot e he hb heq
      refine wpOpIn_mono (fun a' w' h3 => ⟨fun _ => h3.2.1 hjk, ih (listed.setIfInBounds j true) a' w' hfree' (ready_mono hr (Ne.symm hji)) h3.1 (h3.2.1 hjk) ?_⟩) h2
      rw [Array.setIfInBounds_comm _ _ hji]
      exact h3.2.2

theorem wpAnyHK_take {i : Nat} {oi : Oper} {v : Value} {fuel : Nat} {listed : Array Bool} {a : Act} {w : World} (hd : noDefer ops = true) (hl : lastB md ops k = true) (hi : ops[i]? = some oi)
    (hs : Region.noSelect ops = true) (hf : Region.free md ops listed i = true) (hr : (Region.ready md ops listed).contains i = true)
    (hQ : ∀ c a w, Q (.panic c) (a.put oi.dst v) w → Q (.panic c) a w) (hy : YieldsIf P ops S oi v a) (hb : ∀ w, oi.about P w a.eval = none) (hS : S w)
    (h : wpAnyHK F n P md ops Q S k fuel (listed.setIfInBounds i true) (a.put oi.dst v) w) : wpAnyHK F n P md ops Q S k (fuel + 1) listed a w :=
  wpAnyHK_first hd hl hi (Region.noSelect_spec hs) hQ fuel listed a w (Region.free_spec hi hf) (by simpa using hr) ⟨hy, hb⟩ hS h

theorem wpAnyHK_done {listed : Array Bool} {a : Act} {w : World} (hr : Region.ready md ops listed = []) (h : Q .normal a w) :
    ∀ fuel, wpAnyHK F n P md ops Q S k fuel listed a w
  | 0 => ⟨hr, h⟩
  | _ + 1 => ⟨fun _ => h, by rw [hr]; simp⟩

def AllReadyHK (F : Fence) (n : Nat) (P : Program) (md : Region.Mode) (ops : Array Oper) (Q : Exit → Act → World → Prop) (S : World → Prop) (k : Nat) (fuel : Nat) (listed : Array Bool) (a : Act) (w : World) (rs : List Nat) : Prop :=
  ∀ i ∈ rs, wpOpIn F n P ops Q i (fun a' w' => (i ≠ k → S w') ∧ wpAnyHK F n P md ops Q S k fuel (listed.setIfInBounds i true) a' w') a w
theorem AllReadyHK.nil {fuel : Nat} {listed : Array Bool} {a : Act} {w : World} : AllReadyHK F n P md ops Q S k fuel listed a w [] := fun _ h => by cases h
theorem AllReadyHK.cons {fuel : Nat} {listed : Array Bool} {a : Act} {w : World} {i : Nat} {o : Oper} {rs : List Nat} (ho : ops[i]? = some o)
    (h : ∀ K' : Act → World → Prop, Shut (∀ a w, S w → (S w → wpAnyHK F n P md ops Q S k fuel (listed.setIfInBounds i true) a w) → K' a w) → if Region.wanted o (yielded ops a.tmps) = true then Oper.wpIn F n P o a w K' Q else (∀ f, o.about P w a.eval = some f → F.fn f) ∧ K' (a.put o.dst undef) w)
    (hs : AllReadyHK F n P md ops Q S k fuel listed a w rs) : AllReadyHK F n P md ops Q S k fuel listed a w (i :: rs) := fun j hj => by
  rcases List.mem_cons.1 hj with rfl | hj
  · exact wpOpIn_step ho (fun K' hK => h K' (fun a w hS hW => hK a w ⟨fun _ => hS, hW hS⟩))
  · exact hs j hj
theorem AllReadyHK.last {fuel : Nat} {listed : Array Bool} {a : Act} {w : World} {o : Oper} (ho : ops[k]? = some o)
    (h : ∀ K' : Act → World → Prop, Shut (∀ a w, wpAnyHK F n P md ops Q S k fuel (listed.setIfInBounds k true) a w → K' a w) → if Region.wanted o (yielded ops a.tmps) = true then Oper.wpIn F n P o a w K' Q else (∀ f, o.about P w a.eval = some f → F.fn f) ∧ K' (a.put o.dst undef) w) : AllReadyHK F n P md ops Q S k fuel listed a w [k] := fun j hj => by
  obtain rfl : j = k := by simpa using hj
  exact wpOpIn_step ho (fun K' hK => h K' (fun a w hW => hK a w ⟨fun h => absurd rfl h, hW⟩))
theorem wpAnyHK_ready {rs : List Nat} {fuel : Nat} {listed : Array Bool} {a : Act} {w : World} (hr : Region.ready md ops listed = rs) (hne : rs ≠ [])
    (h : AllReadyHK F n P md ops Q S k fuel listed a w rs) : wpAnyHK F n P md ops Q S k (fuel + 1) listed a w :=
  ⟨fun h0 => absurd (hr ▸ h0) hne, hr ▸ h⟩
theorem wpIn_region_heldK (k : Nat) {id : Nat} {a : Act} {w : World} (hm : P.follows .mixedOrders = true) (hS : S w.drew)
    (h : S w.drew → wpAnyHK F n P .any ops Q S k ops.size (Array.replicate ops.size false) a w.drew) : (Code.region id ops true).wpIn F n P Q a w :=
  wpIn_region_any hm (wpAnyIn_of_heldK _ _ _ _ (h hS))
end

end Go.Proofs.Ytjmooakjdcepcaa
