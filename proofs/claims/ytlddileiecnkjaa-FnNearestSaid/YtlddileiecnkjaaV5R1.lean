/-
  What is proved here: the reader of a code hands out small numbers, numbers near bounds and now and then outside of them, and turns nothing but itself. No conditions beyond those that each theorem states.
-/
import Derived.Test.YtlddileiecnkjaaV5G01
import Derived.OpenShut
import Derived.IntWalk
set_option linter.unusedSimpArgs false
set_option linter.unusedVariables false
namespace Go.Proofs.Ytlddileiecnkjaa
open Go.RowKit

/-- A reader at block rd, at place p of a code. -/
def Rd (w : World) (rd : Nat) (A : Option Addr) (n c p : Nat) : Prop :=
  w.rowIs rd 142 2 (fun i => if i = 0 then .slice A n c else .int .i64 p) ∧ p ≤ n ∧
    (0 < n → ∃ g off, A = some ⟨g, off, none⟩ ∧ g ≠ rd ∧ g < w.heap.size ∧ ∀ j, j < n → ∃ b : Int, w.cell? ⟨g, off + j, none⟩ = some (.int .u8 b) ∧ 0 ≤ b ∧ b ≤ 255)
/-- A reader, wherever it stands. -/
def RdAny (w : World) (rd : Nat) (A : Option Addr) (n c : Nat) : Prop := ∃ p, Rd w rd A n c p
theorem Rd.bl {w w' : World} {rd : Nat} {A : Option Addr} {n c p : Nat} (h : Rd w rd A n c p) (hb : Bl w w') : Rd w' rd A n c p := by
  obtain ⟨hr, hp, hc⟩ := h
  refine ⟨hr.of_block (Below.block (show Below w.heap.size w w' from hb) rd hr.lt), hp, fun h0 => ?_⟩
  obtain ⟨g, off, e, hne, hlt, hcell⟩ := hc h0
  refine ⟨g, off, e, hne, Nat.lt_of_lt_of_le hlt hb.size, fun j hj => ?_⟩
  obtain ⟨b, h1, h2⟩ := hcell j hj
  exact ⟨b, ((bcell hb).1 _ _ hlt).trans h1, h2⟩
theorem RdAny.bl {w w' : World} {rd : Nat} {A : Option Addr} {n c : Nat} (h : RdAny w rd A n c) (hb : Bl w w') : RdAny w' rd A n c := by
  obtain ⟨p, h⟩ := h
  exact ⟨p, h.bl hb⟩
theorem Rd.step {w : World} {rd : Nat} {A : Option Addr} {n c p : Nat} (h : Rd w rd A n c p) (hp : p < n) : Rd (w.setCell ⟨rd, 1, none⟩ (.int .i64 ((p : Int) + 1))) rd A n c (p + 1) := by
  obtain ⟨hr, _, hc⟩ := h
  refine ⟨(hr.set 1 _).congr fun i hi => ?_, by omega, fun h0 => ?_⟩
  · have : i = 0 ∨ i = 1 := by omega
    rcases this with rfl | rfl <;> simp
  · obtain ⟨g, off, e, hne, hlt, hcell⟩ := hc h0
    refine ⟨g, off, e, hne, by rw [World.size_setCell]; exact hlt, fun j hj => ?_⟩
    obtain ⟨b, h1, h2⟩ := hcell j hj
    exact ⟨b, by rw [World.cell?_setCell_other _ _ _ _ (fun e => hne (by injection e with e1; exact e1.symm))]; exact h1, h2⟩

/-- What a reader's call leaves: a number with a property; the reader; nothing else that was there has turned. -/
def RdPost (P : Int → Prop) (rd : Nat) (A : Option Addr) (n c : Nat) (w : World) (e : Ending) (w' : World) : Prop :=
  ∃ b : Int, P b ∧ e = .returned (.int .i64 b) ∧ RdAny w' rd A n c ∧ w.grownBy w' (some rd)
theorem grown_drewN {a w : World} {row : Option Nat} (h : a.grownBy w row) (n : Nat) : a.grownBy (w.drewN n) row := ⟨h.os, h.tape, h.output, h.size, h.block⟩
set_option maxHeartbeats 1000000 in
theorem next_any (rd : Nat) (A : Option Addr) (n c : Nat) (w : World) (hn : n ≤ 1099511627776) (HR : RdAny w rd A n c) :
    Calls Try.prog 121 #[.pointer (some ⟨rd, 0, none⟩)] w (RdPost (fun b => 0 ≤ b ∧ b ≤ 255) rd A n c w) := by
  obtain ⟨p, HR⟩ := HR
  have R := Lib.hid HR
  obtain ⟨hr, hp, hc⟩ := HR
  have q0 := hr.cell (i := 0) (by omega)
  have q1 := hr.cell (i := 1) (by omega)
  have f0 := hr.frozen 0
  have f1 := hr.frozen 1
  simp only [if_pos, if_neg, Nat.one_ne_zero, if_false, if_true] at q0 q1
  have C := Lib.hid hc
  clear hr hc
  by_cases hpn : p < n
  · obtain ⟨g, off, rfl, hne, hlt, hcell⟩ := C.out (by omega)
    obtain ⟨b, hb, hb0, hb1⟩ := hcell p hpn
    have hcell' : (w.setCell ⟨rd, 1, none⟩ (.int .i64 ((p : Int) + 1))).cell? ⟨g, off + p, none⟩ = some (.int .u8 b) := by
      rw [World.cell?_setCell_other _ _ _ _ (fun e => hne (by injection e with e1; exact e1.symm))]; exact hb
    have u1 : decide ((n : Int) ≤ (p : Int)) = false := by simp; omega
    have u2 : (0 : Int) ≤ (p : Int) := by omega
    have u3 : (p : Int) < (n : Int) := by omega
    have w1 : IntKind.i64.wrap ((p : Int) + 1 - 1) = (p : Int) := by rw [show (p : Int) + 1 - 1 = p from by omega]; exact IntWalk.i64_in _ (by omega)
    clear hcell C
    go_enter Try.func121, Try.ntmps121
    go_wp2_with fail
    go_quiet (fail)
    go_wp2_with fail
    go_quiet (fail)
    go_wp2
    go_ret
    exact ⟨b, ⟨hb0, hb1⟩, rfl, ⟨p + 1, (Rd.step (Rd.bl R.out (Bl.drewN_ (Bl.refl w) _)) hpn).bl (Bl.drewN_ (Bl.refl _) _)⟩, grown_drewN (grown_set (grown_drewN (World.grownBy.refl w (some rd)) _) (.inl rfl) _) _⟩
  · have u1 : decide ((n : Int) ≤ (p : Int)) = true := by simp; omega
    go_enter Try.func121, Try.ntmps121
    go_wp2_with fail
    go_quiet (fail)
    go_wp2
    go_ret
    exact ⟨0, by omega, rfl, ⟨p, R.out.bl (by repeat' (first | exact Bl.refl _ | with_reducible assumption | with_reducible refine Bl.drew_ ?_ | with_reducible refine Bl.drewN_ ?_ _ | with_reducible refine Bl.alloc_ ?_ _ | with_reducible refine Bl.trans_ ?_ (by assumption) | with_reducible refine Bl.trans_ ?_ (And.left (by assumption))))⟩, bl_grown (by repeat' (first | exact Bl.refl _ | with_reducible assumption | with_reducible refine Bl.drew_ ?_ | with_reducible refine Bl.drewN_ ?_ _ | with_reducible refine Bl.alloc_ ?_ _ | with_reducible refine Bl.trans_ ?_ (by assumption) | with_reducible refine Bl.trans_ ?_ (And.left (by assumption)))) _⟩

theorem rem_small {a m : Int} (h0 : 0 ≤ a) (h1 : 0 < m) : 0 ≤ a % m ∧ a % m < m := ⟨Int.emod_nonneg _ (by omega), Int.emod_lt_of_pos _ h1⟩

set_option maxHeartbeats 1000000 in
theorem below_any (m : Int) (rd : Nat) (A : Option Addr) (n c : Nat) (w : World) (hn : n ≤ 1099511627776) (hm : m ≤ 4611686018427387904) (HR : RdAny w rd A n c) :
    Calls Try.prog 70 #[.pointer (some ⟨rd, 0, none⟩), .int .i64 m] w (RdPost (fun b => 0 ≤ b ∧ (b = 0 ∨ b < m)) rd A n c w) := by
  have R := Lib.hid HR
  clear HR
  by_cases h1 : m ≤ 1
  · go_enter Try.func70, Try.ntmps70
    go_wp2
    go_ret
    exact ⟨0, ⟨by omega, .inl rfl⟩, rfl, R.out, World.grownBy.refl w _⟩
  · have h1' : (0 : Int) < m := by omega
    have h1'' : (1 : Int) ≤ m := by omega
    by_cases h2 : m ≤ 256
    · go_enter Try.func70, Try.ntmps70
      go_wp2_with fail
      refine (next_any rd A n c _ hn R.out).mono ?_
      rintro e w1 ⟨b, ⟨b0, b1⟩, rfl, hr, hg⟩
      have R1 := Lib.hid hr
      have G1 := Lib.hid hg
      clear hr hg
      have hr := Lib.hid (rem_small b0 h1')
      go_wp2
      go_ret
      exact ⟨b % m, ⟨hr.out.1, .inr hr.out.2⟩, rfl, R1.out, G1.out⟩
    · go_enter Try.func70, Try.ntmps70
      go_wp2_with fail
      refine (next_any rd A n c _ hn R.out).mono ?_
      rintro e w1 ⟨b, ⟨b0, b1⟩, rfl, hr, hg⟩
      have R1 := Lib.hid hr
      have G1 := Lib.hid hg
      clear hr hg
      go_wp2_with fail
      refine (next_any rd A n c _ hn R1.out).mono ?_
      rintro e w2 ⟨d, ⟨d0, d1⟩, rfl, hr, hg⟩
      have R2 := Lib.hid hr
      have G2 := Lib.hid hg
      clear hr hg
      have hr := Lib.hid (rem_small (a := b * 256 + d) (by omega) h1')
      have u0 : (0 : Int) ≤ b * 256 + d := by omega
      go_wp2
      go_ret
      exact ⟨(b * 256 + d) % m, ⟨hr.out.1, .inr hr.out.2⟩, rfl, R2.out, grown_trans G1.out G2.out⟩

/-- What a reader's test leaves. -/
def RdTest (rd : Nat) (A : Option Addr) (n c : Nat) (w : World) (e : Ending) (w' : World) : Prop :=
  ∃ b : Bool, e = .returned (.bool b) ∧ RdAny w' rd A n c ∧ w.grownBy w' (some rd)

set_option maxHeartbeats 400000 in
theorem once_any (m : Int) (rd : Nat) (A : Option Addr) (n c : Nat) (w : World) (hn : n ≤ 1099511627776) (hm : m ≤ 4611686018427387904) (hm0 : 0 ≤ m) (HR : RdAny w rd A n c) :
    Calls Try.prog 71 #[.pointer (some ⟨rd, 0, none⟩), .int .i64 m] w (RdTest rd A n c w) := by
  have R := Lib.hid HR
  clear HR
  go_enter Try.func71, Try.ntmps71
  go_wp2_with fail
  refine (below_any m rd A n c _ hn hm R.out).mono ?_
  rintro e w1 ⟨b, hb, rfl, hr, hg⟩
  have R1 := Lib.hid hr
  have G1 := Lib.hid hg
  clear hr hg hb
  go_wp2
  go_ret
  exact ⟨b == m - 1, rfl, R1.out, G1.out⟩


/-- A word is left. -/
def RdWord (rd : Nat) (A : Option Addr) (n c : Nat) (w : World) (e : Ending) (w' : World) : Prop :=
  ∃ b : Int, 0 ≤ b ∧ e = .returned (.int .u64 b) ∧ RdAny w' rd A n c ∧ w.grownBy w' (some rd)

set_option maxHeartbeats 1000000 in
theorem word_any (rd : Nat) (A : Option Addr) (n c : Nat) (w : World) (hn : n ≤ 1099511627776) (HR : RdAny w rd A n c) :
    Calls Try.prog 147 #[.pointer (some ⟨rd, 0, none⟩)] w (RdWord rd A n c w) := by
  have R := Lib.hid HR
  clear HR
  go_enter Try.func147, Try.ntmps147
  go_wp2
  go_loopw [3, 4] (fun x i wr => ∃ (k : Nat) (b : Int), k ≤ 8 ∧ i = .int .i64 k ∧ 0 ≤ b ∧ x = .int .u64 b ∧ RdAny wr rd A n c ∧ w.grownBy wr (some rd)) (fun _ i _ => 8 - (intOf i).toNat)
  case atStart => exact ⟨0, 0, by omega, rfl, by omega, rfl, R.out, World.grownBy.refl w _⟩
  case round =>
    obtain ⟨k, b, hk, rfl, hb, rfl, hr, hg⟩ := hrel
    have R0 := Lib.hid hr
    have G0 := Lib.hid hg
    clear hr hg
    by_cases hlt : k < 8
    · go_wp2_with fail
      refine (next_any rd A n c _ hn R0.out).mono ?_
      rintro e w1 ⟨d, ⟨d0, d1⟩, rfl, hr, hg⟩
      have R1 := Lib.hid hr
      have G1 := Lib.hid hg
      clear hr hg
      go_wp2
      go_roundw
      case rel =>
        exact ⟨k + 1, _, by omega, by go_num, (bounds_u64 (wf_bits _ _ _ _)).1, rfl, R1.out, grown_trans G0.out G1.out⟩
      case measure => simp [intOf]; omega
    · go_wp2
      go_ret
      exact ⟨b, hb, rfl, R0.out, G0.out⟩

/-- A number of 64 bits. -/
def In64 (b : Int) : Prop := -9223372036854775808 ≤ b ∧ b ≤ 9223372036854775807
theorem wrap64_bounds (x : Int) : In64 (wrap64 x) := by
  unfold In64 wrap64
  omega

theorem div_ok {lo hi : Int} (h : lo ≤ hi) (l0 : 0 ≤ lo) (l1 : lo ≤ 1000) (h0 : -9223372036854775808 ≤ hi) (h1 : hi ≤ 9223372036854775807) : ¬ (IntKind.u64.wrap (wrap64 (hi - lo + 1)) = 0) := by
  rw [IntKind.wrap_u64]
  unfold wrap64
  omega

set_option maxHeartbeats 2000000 in
theorem near_any (lo hi : Int) (rd : Nat) (A : Option Addr) (n c : Nat) (w : World) (hn : n ≤ 1099511627776) (l0 : 0 ≤ lo) (l1 : lo ≤ 1000) (h0 : -9223372036854775808 ≤ hi) (h1 : hi ≤ 9223372036854775807) (HR : RdAny w rd A n c) :
    Calls Try.prog 122 #[.pointer (some ⟨rd, 0, none⟩), .int .i64 lo, .int .i64 hi] w (RdPost In64 rd A n c w) := by
  have R := Lib.hid HR
  clear HR
  go_enter Try.func122, Try.ntmps122
  go_wp2_with fail
  refine (below_any 8 rd A n c _ hn (by omega) R.out).mono ?_
  rintro e w1 ⟨b, ⟨b0, b1⟩, rfl, hr, hg⟩
  have R1 := Lib.hid hr
  have G1 := Lib.hid hg
  clear hr hg
  by_cases e0 : b = 0
  · have t0 : (b == 0) = true := by simpa using e0
    clear e0
    go_wp2
    go_ret
    exact ⟨lo, (by unfold In64; omega), rfl, R1.out, G1.out⟩
  · have t0 : (b == 0) = false := by simpa using e0
    clear e0
    by_cases e1 : b = 1
    · have t1 : (b == 1) = true := by simpa using e1
      clear e1
      go_wp2
      go_ret
      exact ⟨hi, ⟨h0, h1⟩, rfl, R1.out, G1.out⟩
    · have t1 : (b == 1) = false := by simpa using e1
      clear e1
      by_cases hl : hi < lo
      · go_wp2
        go_ret
        exact ⟨lo, (by unfold In64; omega), rfl, R1.out, G1.out⟩
      · go_wp2_with fail
        refine (word_any rd A n c _ hn R1.out).mono ?_
        rintro e w2 ⟨d, d0, rfl, hr, hg⟩
        have R2 := Lib.hid hr
        have G2 := Lib.hid hg
        clear hr hg
        have hne : ¬ (IntKind.u64.wrap (wrap64 (hi - lo + 1)) = 0) := div_ok (by omega) l0 l1 h0 h1
        go_wp2
        go_ret
        exact ⟨_, wrap64_bounds _, rfl, R2.out, grown_trans G1.out G2.out⟩


theorem four_cell {w w' : World} {rd : Nat} {a b c d : Value} {t : TypeId} (hg : (w.alloc (.cells #[a, b, c, d] t)).grownBy w' (some rd)) (hr : rd < w.heap.size) : w'.cell? ⟨w.heap.size, 0, none⟩ = some a ∧ w'.cell? ⟨w.heap.size, 1, none⟩ = some b ∧ w'.cell? ⟨w.heap.size, 2, none⟩ = some c ∧ w'.cell? ⟨w.heap.size, 3, none⟩ = some d := by
  have hne : some w.heap.size ≠ some rd := fun h => by injection h with h; omega
  exact ⟨hg.cell (by simp [go_sem]) hne, hg.cell (by simp [go_sem]) hne, hg.cell (by simp [go_sem]) hne, hg.cell (by simp [go_sem]) hne⟩
theorem RdAny.lt {w : World} {rd : Nat} {A : Option Addr} {n c : Nat} (h : RdAny w rd A n c) : rd < w.heap.size := by
  obtain ⟨p, h⟩ := h
  exact h.1.lt

set_option maxHeartbeats 2000000 in
theorem off_any (lo hi : Int) (rd : Nat) (A : Option Addr) (n c : Nat) (w : World) (hn : n ≤ 1099511627776) (l0 : 0 ≤ lo) (l1 : lo ≤ 1000) (h0 : -9223372036854775808 ≤ hi) (h1 : hi ≤ 9223372036854775807) (HR : RdAny w rd A n c) :
    Calls Try.prog 72 #[.pointer (some ⟨rd, 0, none⟩), .int .i64 lo, .int .i64 hi] w (RdPost In64 rd A n c w) := by
  have R := Lib.hid HR
  clear HR
  go_enter Try.func72, Try.ntmps72
  go_wp2_with fail
  refine (once_any 24 rd A n c _ hn (by omega) (by omega) R.out).mono ?_
  rintro e w1 ⟨b, rfl, hr, hg⟩
  have R1 := Lib.hid hr
  have G1 := Lib.hid hg
  have hlt := hr.lt
  clear hr hg
  cases b with
  | false =>
    go_wp2_with fail
    refine (near_any lo hi rd A n c _ hn l0 l1 h0 h1 R1.out).mono ?_
    rintro e w2 ⟨d, hd, rfl, hr, hg⟩
    have HD := Lib.hid hd
    have R2 := Lib.hid hr
    have G2 := Lib.hid hg
    clear hr hg hd
    go_wp2
    go_ret
    exact ⟨d, HD.out, rfl, R2.out, grown_trans G1.out G2.out⟩
  | true =>
    go_wp2_with fail
    refine (below_any 4 rd A n c _ hn (by omega) (R1.out.bl (Bl.alloc_ (Bl.refl w1) _))).mono ?_
    rintro e w2 ⟨d, ⟨d0, d1⟩, rfl, hr, hg⟩
    have R2 := Lib.hid hr
    have G2 := Lib.hid hg
    obtain ⟨c0, c1, c2, c3⟩ := four_cell hg hlt
    clear hr hg
    have hd : d = 0 ∨ d = 1 ∨ d = 2 ∨ d = 3 := by omega
    have GG := Lib.hid (grown_trans (G1.out) (grown_trans (bl_grown (Bl.alloc_ (Bl.refl w1) _) _) G2.out))
    rcases hd with rfl | rfl | rfl | rfl
    · go_wp2
      go_ret
      exact ⟨_, (by first | (unfold In64; omega) | exact wrap64_bounds _), rfl, R2.out, GG.out⟩
    · go_wp2
      go_ret
      exact ⟨_, (by first | (unfold In64; omega) | exact wrap64_bounds _), rfl, R2.out, GG.out⟩
    · go_wp2
      go_ret
      exact ⟨_, (by first | (unfold In64; omega) | exact wrap64_bounds _), rfl, R2.out, GG.out⟩
    · go_wp2
      go_ret
      exact ⟨_, (by first | (unfold In64; omega) | exact wrap64_bounds _), rfl, R2.out, GG.out⟩

end Go.Proofs.Ytlddileiecnkjaa
