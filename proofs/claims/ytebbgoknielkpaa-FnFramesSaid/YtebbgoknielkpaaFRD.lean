/-
  What is proved here: the draws of texts, of frames set side by side: how long they are at most. No conditions beyond those that each theorem states.
-/
import Derived.Test.YtebbgoknielkpaaRB
import Derived.Test.YtebbgoknielkpaaFRB
import Derived.Test.YtebbgoknielkpaaFRM
import Derived.Test.YtebbgoknielkpaaFRX
set_option linter.unusedSimpArgs false
set_option linter.unusedVariables false
namespace Go.Proofs.Ytebbgoknielkpaa
open Go.RowKit

theorem rd_grow {w w' : World} {rd : Nat} {A : Option Addr} {n c : Nat} {row : Option Nat} (h : RdAny w rd A n c) (hg : w.grownBy w' row) (hne : some rd ≠ row) (hA : 0 < n → ∀ g off, A = some ⟨g, off, none⟩ → some g ≠ row) : RdAny w' rd A n c := by
  obtain ⟨p, hr, hp, hc⟩ := h
  refine ⟨p, World.rowIs.of_block hr (hg.block rd hr.lt hne), hp, fun h0 => ?_⟩
  obtain ⟨g, off, e, hne', hlt, hcell⟩ := hc h0
  refine ⟨g, off, e, hne', Nat.lt_of_lt_of_le hlt hg.size, fun j hj => ?_⟩
  obtain ⟨b, h1, h2⟩ := hcell j hj
  exact ⟨b, hg.cell h1 (hA h0 g off e), h2⟩
theorem grown_ownU {a b c : World} {row row2 : Option Nat} (h : a.grownBy b row) (k : b.grownBy c row2) (hr : ∀ g, row2 = some g → a.heap.size ≤ g) : a.grownBy c row :=
  ⟨k.os.trans h.os, k.tape.trans h.tape, k.output.trans h.output, Nat.le_trans h.size k.size, fun i hi hne => (k.block i (Nat.lt_of_lt_of_le hi h.size) (fun e => by have := hr i e.symm; omega)).trans (h.block i hi hne)⟩
/-- A text of at most m bytes has been drawn. -/
def RdStr (m : Nat) (rd : Nat) (A : Option Addr) (n c : Nat) (w : World) (e : Ending) (w' : World) : Prop :=
  ∃ z : ByteArray, e = .returned (.string z) ∧ z.size ≤ m ∧ RdAny w' rd A n c ∧ w.grownBy w' (some rd)

set_option maxHeartbeats 1000000 in
theorem textD_any (rd : Nat) (A : Option Addr) (n c : Nat) (w : World) (hn : n ≤ 1099511627776) (HR : RdAny w rd A n c) :
    Calls Try.prog 58 #[.pointer (some ⟨rd, 0, none⟩)] w (RdStr 3 rd A n c w) := by
  have R := Lib.hid HR
  have hrl := RdAny.lt HR
  clear HR
  go_enter Try.func58, Try.ntmps58
  go_wp2_with fail
  refine (below_any 5 rd A n c _ hn (by omega) (R.out.bl (by repeat' (first | exact Bl.refl _ | with_reducible assumption | with_reducible refine Bl.drew_ ?_ | with_reducible refine Bl.drewN_ ?_ _ | with_reducible refine Bl.alloc_ ?_ _ | with_reducible refine Bl.trans_ ?_ (by assumption) | with_reducible refine Bl.trans_ ?_ (And.left (by assumption)))))).mono ?_
  rintro e w1 ⟨b, ⟨b0, b1⟩, rfl, hr, hg⟩
  have R1 := Lib.hid hr
  have G1 := Lib.hid hg
  clear hr hg
  have hb5 : b = 0 ∨ b = 1 ∨ b = 2 ∨ b = 3 ∨ b = 4 := by omega
  have q : ∀ (j : Nat) (u : Value), (#[.string ⟨#[]⟩, .string ⟨#[97]⟩, .string ⟨#[120, 10]⟩, .string ⟨#[97, 98, 99]⟩, .string ⟨#[0]⟩] : Array Value)[j]? = some u → w1.cell? ⟨w.heap.size, j, none⟩ = some u := fun j u h =>
    G1.out.cell (by rw [World.cell?_alloc_mark]; exact h) (by intro hx; injection hx with hx; simp at hx; omega)
  have q0 := q 0 _ rfl
  have q1 := q 1 _ rfl
  have q2 := q 2 _ rfl
  have q3 := q 3 _ rfl
  have q4 := q 4 _ rfl
  clear q
  have GF := Lib.hid (show w.grownBy w1 (some rd) from grown_trans (bl_grown (by repeat' (first | exact Bl.refl _ | with_reducible assumption | with_reducible refine Bl.drew_ ?_ | with_reducible refine Bl.drewN_ ?_ _ | with_reducible refine Bl.alloc_ ?_ _ | with_reducible refine Bl.trans_ ?_ (by assumption) | with_reducible refine Bl.trans_ ?_ (And.left (by assumption)))) _) G1.out)
  rcases hb5 with rfl | rfl | rfl | rfl | rfl
  · go_wp2
    refine bodyPost_ret (v := .string ⟨#[]⟩) (by simp [results, Try.results58, go_sem]) rfl ⟨_, rfl, by decide, R1.out, GF.out⟩
  · go_wp2
    refine bodyPost_ret (v := .string ⟨#[97]⟩) (by simp [results, Try.results58, go_sem]) rfl ⟨_, rfl, by decide, R1.out, GF.out⟩
  · go_wp2
    refine bodyPost_ret (v := .string ⟨#[120, 10]⟩) (by simp [results, Try.results58, go_sem]) rfl ⟨_, rfl, by decide, R1.out, GF.out⟩
  · go_wp2
    refine bodyPost_ret (v := .string ⟨#[97, 98, 99]⟩) (by simp [results, Try.results58, go_sem]) rfl ⟨_, rfl, by decide, R1.out, GF.out⟩
  · go_wp2
    refine bodyPost_ret (v := .string ⟨#[0]⟩) (by simp [results, Try.results58, go_sem]) rfl ⟨_, rfl, by decide, R1.out, GF.out⟩

/-- The cells of bytes. -/
def csU (L : List UInt8) : List Value := L.map (fun b => .int .u8 (b.toNat : Int))
/-- The value v owns the bytes L, in blocks from B on. -/
def OwnU (w : World) (B : Nat) (v : Value) (L : List UInt8) : Prop := Owns 5 1 w B v L.length (csU L)
theorem OwnU.shape {w : World} {B : Nat} {v : Value} {L : List UInt8} (h : OwnU w B v L) : ∃ A c, v = .slice A L.length c ∧ CellsAt w w.heap.size A (csU L) := by
  obtain ⟨A, c, rfl, -, h1, -, -⟩ := Owns.shape h
  exact ⟨A, c, rfl, h1⟩
theorem OwnU.snoc {w : World} {B : Nat} {v : Value} {L : List UInt8} {x : UInt8} {n : Nat} (hn : n = L.length) (h : w.ownsRow B 5 1 v (n + 1) (csU L ++ [.int .u8 (x.toNat : Int)])) : OwnU w B v (L ++ [x]) := by
  subst hn
  unfold OwnU
  have e : csU (L ++ [x]) = csU L ++ [.int .u8 (x.toNat : Int)] := by simp [csU]
  rw [e, show (L ++ [x]).length = L.length + 1 from by simp]
  exact h
theorem conv_row {w : World} {B : Nat} {A : Option Addr} {c : Nat} {L : List UInt8} (h : CellsAt w B A (csU L)) :
    (convert 29 9 (.slice A L.length c)).run Try.prog w = .ok (.string ⟨L.toArray⟩) w := by
  cases A with
  | none =>
    cases L with
    | nil => rw [run_convert_bytes_string w 29 9 5 none _ _ (by kernel_rfl) (by kernel_rfl) (by kernel_rfl)]; rfl
    | cons x L =>
      obtain ⟨g, off, e, -⟩ := h (by simp [csU])
      cases e
  | some a =>
    refine run_convert_bytes_back (P := Try.prog) _ 29 9 5 _ _ L (by kernel_rfl) (by kernel_rfl) (by kernel_rfl) (fun j hj => ?_)
    obtain ⟨g, off, e, -, hc⟩ := h (by simp [csU]; omega)
    injection e with e
    subst e
    rw [Addr.add_lit, hc j (by simpa [csU] using hj)]
    simp [csU]
theorem infoByte : (Try.prog.info? 5).map (fun i => (i.zero, i.size, i.bytes)) = some (some (.int .u8 0), 1, 1) := by kernel_rfl

set_option maxHeartbeats 2000000 in
theorem bytesD_any (rd : Nat) (A : Option Addr) (n c : Nat) (w : World) (hn : n ≤ 1099511627776) (HR : RdAny w rd A n c) :
    Calls Try.prog 60 #[.pointer (some ⟨rd, 0, none⟩), .int .i64 5] w (RdStr 5 rd A n c w) := by
  obtain ⟨i0, hi, hz0, hz1, hz2⟩ := info_parts infoByte
  have I0 := Lib.hid hi
  have I1 := Lib.hid hz0
  have I2 := Lib.hid hz1
  have I3 := Lib.hid hz2
  clear hi hz0 hz1 hz2
  have R := Lib.hid HR
  have hrl := RdAny.lt HR
  have AL := Lib.hid (show 0 < n → ∀ g off, A = some ⟨g, off, none⟩ → g < w.heap.size from fun h0 g off e => by
    obtain ⟨p, -, -, hc⟩ := HR
    obtain ⟨g', off', e', -, hl, -⟩ := hc h0
    rw [e] at e'
    injection e' with e'
    injection e' with e1
    omega)
  clear HR
  go_enter Try.func60, Try.ntmps60
  go_wp2_with fail
  refine (below_any 6 rd A n c _ hn (by omega) (R.out.bl (by repeat' (first | exact Bl.refl _ | with_reducible assumption | with_reducible refine Bl.drew_ ?_ | with_reducible refine Bl.drewN_ ?_ _ | with_reducible refine Bl.alloc_ ?_ _ | with_reducible refine Bl.trans_ ?_ (by assumption) | with_reducible refine Bl.trans_ ?_ (And.left (by assumption)))))).mono ?_
  rintro e w1 ⟨b, ⟨b0, b1⟩, rfl, hr, hg⟩
  have R1 := Lib.hid hr
  have G1 := Lib.hid hg
  clear hr hg
  have O1 := Lib.hid (show OwnU w1 w.heap.size (.slice (some ⟨w.heap.size, 0, none⟩) 0 0) [] from
    Owns.grown_ (World.ownsRow_made (base := w.heap.size) (e := 5) (size := 1) w #[] 0 (Nat.le_refl _) (by unfold maxLen; omega) rfl) G1.out (fun g hg e => by
      injection e with e
      have := (Owns.lt (World.ownsRow_made (base := w.heap.size) (e := 5) (size := 1) w #[] 0 (Nat.le_refl _) (by unfold maxLen; omega) rfl) g hg).1
      omega))
  have GF := Lib.hid (show w.grownBy w1 (some rd) from grown_trans (bl_grown (by repeat' (first | exact Bl.refl _ | with_reducible assumption | with_reducible refine Bl.drew_ ?_ | with_reducible refine Bl.drewN_ ?_ _ | with_reducible refine Bl.alloc_ ?_ _ | with_reducible refine Bl.trans_ ?_ (by assumption) | with_reducible refine Bl.trans_ ?_ (And.left (by assumption)))) _) G1.out)
  go_wp2_with fail
  go_loopw [5, 6] (fun q i wr => ∃ (m : Int) (L : List UInt8), 0 ≤ m ∧ m ≤ 5 ∧ i = .int .i64 m ∧ (L.length : Int) + m ≤ 5 ∧ OwnU wr w.heap.size q L ∧ RdAny wr rd A n c ∧ w.grownBy wr (some rd)) (fun _ i _ => (intOf i).toNat)
  case atStart => exact ⟨b, [], b0, by omega, rfl, by simp; omega, O1.out, R1.out, GF.out⟩
  case round =>
    obtain ⟨m, L, mm0, mm1, rfl, hLm, hO, hR, hG⟩ := hrel
    have OO := Lib.hid hO
    have RR := Lib.hid hR
    have GG := Lib.hid hG
    obtain ⟨AV, cV, rfl, hcells⟩ := OwnU.shape hO
    have HC := Lib.hid hcells
    clear hO hR hG O1 R1 G1 GF hcells
    by_cases hm : 0 < m
    · go_wp2_with fail
      refine (below_any 256 rd A n c _ hn (by omega) RR.out).mono ?_
      rintro e w4 ⟨x, ⟨x0, x1⟩, rfl, hr, hg⟩
      have O4 := Lib.hid (show OwnU w4 w.heap.size (.slice AV L.length cV) L from Owns.grown_ OO.out hg (fun g hg' e => by
        injection e with e
        have := (Owns.lt OO.out g hg').1
        omega))
      have R4 := Lib.hid hr
      have G4 := Lib.hid (grown_trans GG.out hg)
      clear hr hg
      have hx : x = ((UInt8.ofNat x.toNat).toNat : Int) := by rw [u8_cell]; omega
      obtain ⟨y, hy⟩ : ∃ y : UInt8, y = UInt8.ofNat x.toNat := ⟨_, rfl⟩
      rw [← hy] at hx
      have hy256 := y.toNat_lt
      clear hy
      subst hx
      obtain ⟨lv, hlv⟩ : ∃ lv, lv = L.length := ⟨_, rfl⟩
      have HLV := Lib.hid hlv
      have OW := Lib.hid (show w4.ownsRow w.heap.size 5 1 (.slice AV lv cV) lv (csU L) from by rw [hlv]; exact O4.out)
      rw [← hlv]
      have hlv5 : lv ≤ 5 := by omega
      have s4 := G4.out.size
      clear hlv
      go_wp2_with (at_builtin; refine wpList_append_own _ rfl (.tmp 16) (.tmp 20) _ rfl w.heap.size 5 i0 _ 1 1 Try.underlying29 I0.out I1.out I2.out I3.out rfl (by decide) _ lv (csU L) rfl (World.ownsRow.alloc OW.out _) ⟨w4.heap.size, 0, none⟩ 1 1 [.int .u8 (y.toNat : Int)] rfl rfl ?c0 (by simp [Value.oneCell']) ?c3 ?c4 ?c5 ?_)
      case c0 =>
        intro j u hj
        match j, hj with
        | 0, hj => simp at hj; subst hj; simp [Addr.add, go_sem]
        | (j + 1), hj => simp at hj
      case c3 => unfold maxLen; omega
      case c4 => omega
      case c5 => simp; omega
      intro v8 w8 hown8 hg8 _
      have O8 := Lib.hid (OwnU.snoc (L := L) (x := y) (n := lv) HLV.out (by simpa using hown8))
      have hol := fun g h => (World.ownsRow.lt OW.out g h).1
      have GX := Lib.hid (grown_bl G4.out (Bl.alloc_ (Bl.refl w4) (.cells #[.int .u8 (y.toNat : Int)] 5)))
      have G8 := Lib.hid (grown_ownU GX.out hg8 (fun g hg => by have := hol g hg; omega))
      have R8 := Lib.hid (rd_grow (R4.out.bl (Bl.alloc_ (Bl.refl w4) (.cells #[.int .u8 (y.toNat : Int)] 5))) hg8 (fun e => by have := hol rd e.symm; omega) (fun h0 g off e e2 => by have := hol g e2.symm; have := AL.out h0 g off e; omega))
      clear hown8 hg8
      go_wp2
      go_roundw
      case rel => exact ⟨m - 1, L ++ [y], by omega, by omega, by go_num, by have := HLV.out; simp; omega, O8.out, R8.out, G8.out⟩
      case measure => simp [intOf]; omega
    · obtain rfl : m = 0 := by omega
      have hcv := conv_row (c := cV) HC.out
      go_wp2
      refine bodyPost_ret (v := .string ⟨L.toArray⟩) (by simp [results, Try.results60, go_sem]) rfl ⟨_, rfl, ?_, RR.out, GG.out⟩
      simp [ByteArray.size]
      omega

theorem wrap_succ (j : Nat) (h : j < 1000000) : Value.int .i64 (IntKind.i64.wrap ((j : Int) + 1)) = .int .i64 ((j : Int) + 1) := by
  rw [show (j : Int) + 1 = ((j + 1 : Nat) : Int) from by omega, Lib.wrap_i64_small _ (by omega)]
theorem six_new (w : World) (x : Int) (x0 : 0 ≤ x) (x1 : x < 6) : ∃ y : ByteArray, (w.alloc (.cells #[.string ⟨#[49]⟩, .string ⟨#[48]⟩, .string ⟨#[10]⟩, .string ⟨#[120]⟩, .string ⟨#[32]⟩, .string ⟨#[57]⟩] 9)).cell? ⟨w.heap.size, x.toNat, none⟩ = some (.string y) ∧ y.size = 1 := by
  rw [World.cell?_alloc_mark]
  have h : x = 0 ∨ x = 1 ∨ x = 2 ∨ x = 3 ∨ x = 4 ∨ x = 5 := by omega
  rcases h with rfl | rfl | rfl | rfl | rfl | rfl <;> exact ⟨_, rfl, rfl⟩
theorem six_cells (w w' : World) (rd : Nat) (x : Int) (x0 : 0 ≤ x) (x1 : x < 6) (hl : rd < w.heap.size) (h : (w.alloc (.cells #[.string ⟨#[49]⟩, .string ⟨#[48]⟩, .string ⟨#[10]⟩, .string ⟨#[120]⟩, .string ⟨#[32]⟩, .string ⟨#[57]⟩] 9)).grownBy w' (some rd)) : ∃ y : ByteArray, w'.cell? ⟨w.heap.size, x.toNat, none⟩ = some (.string y) ∧ y.size = 1 := by
  obtain ⟨y, hc, hy⟩ := six_new w x x0 x1
  exact ⟨y, h.cell hc (by intro hx; injection hx with hx; simp at hx; omega), hy⟩

set_option maxRecDepth 10000 in
set_option maxHeartbeats 4000000 in
theorem hurtD_any (s : ByteArray) (hs : s.size ≤ 1000) (rd : Nat) (A : Option Addr) (n c : Nat) (w : World) (hn : n ≤ 1099511627776) (HR : RdAny w rd A n c) :
    Calls Try.prog 59 #[.pointer (some ⟨rd, 0, none⟩), .string s] w (RdStr 1001 rd A n c w) := by
  have R := Lib.hid HR
  have hrl := RdAny.lt HR
  clear HR
  go_enter Try.func59, Try.ntmps59
  go_wp2_with fail
  refine (below_any 6 rd A n c _ hn (by omega) (R.out.bl (by repeat' (first | exact Bl.refl _ | with_reducible assumption | with_reducible refine Bl.drew_ ?_ | with_reducible refine Bl.drewN_ ?_ _ | with_reducible refine Bl.alloc_ ?_ _ | with_reducible refine Bl.trans_ ?_ (by assumption) | with_reducible refine Bl.trans_ ?_ (And.left (by assumption)))))).mono ?_
  rintro e w1 ⟨b, ⟨b0, b1⟩, rfl, hr, hg⟩
  have R1 := Lib.hid hr
  have G1 := Lib.hid hg
  have hl1 := RdAny.lt hr
  clear hr hg
  by_cases e1 : b = 1
  · subst e1
    go_wp2_with fail
    refine (below_any ((s.size : Int) + 1) rd A n c _ hn (by omega) R1.out).mono ?_
    rintro e w2 ⟨x, ⟨x0, x1⟩, rfl, hr, hg⟩
    have R2 := Lib.hid hr
    have G2 := Lib.hid (grown_trans G1.out hg)
    clear hr hg
    have x2 : x ≤ (s.size : Int) := by omega
    go_wp2
    refine bodyPost_ret (v := .string (s.extract 0 x.toNat)) (by simp [results, Try.results59, go_sem]) rfl ⟨_, rfl, ?_, R2.out, G2.out⟩
    rw [ByteArray.size_extract]
    omega
  · by_cases e3 : b = 3
    · subst e3
      go_wp2_with fail
      refine (below_any 3 rd A n c _ hn (by omega) (R1.out.bl (by repeat' (first | exact Bl.refl _ | with_reducible assumption | with_reducible refine Bl.drew_ ?_ | with_reducible refine Bl.drewN_ ?_ _ | with_reducible refine Bl.alloc_ ?_ _ | with_reducible refine Bl.trans_ ?_ (by assumption) | with_reducible refine Bl.trans_ ?_ (And.left (by assumption)))))).mono ?_
      rintro e w2 ⟨x, ⟨x0, x1⟩, rfl, hr, hg⟩
      have R2 := Lib.hid hr
      have G2 := Lib.hid (grown_trans G1.out (grown_trans (bl_grown (by repeat' (first | exact Bl.refl _ | with_reducible assumption | with_reducible refine Bl.drew_ ?_ | with_reducible refine Bl.drewN_ ?_ _ | with_reducible refine Bl.alloc_ ?_ _ | with_reducible refine Bl.trans_ ?_ (by assumption) | with_reducible refine Bl.trans_ ?_ (And.left (by assumption)))) _) hg))
      have q : ∀ (j : Nat) (u : Value), (#[.string ⟨#[49]⟩, .string ⟨#[10]⟩, .string ⟨#[32]⟩] : Array Value)[j]? = some u → w2.cell? ⟨w1.heap.size, j, none⟩ = some u := fun j u h =>
        hg.cell (by rw [World.cell?_alloc_mark]; exact h) (by intro hx; injection hx with hx; simp at hx; omega)
      have q0 := q 0 _ rfl
      have q1 := q 1 _ rfl
      have q2 := q 2 _ rfl
      clear q hr hg
      have hns : ¬ (9223372036854775807 < s.size + 1) := by omega
      have hx : x = 0 ∨ x = 1 ∨ x = 2 := by omega
      rcases hx with rfl | rfl | rfl
      · have hz1 : (⟨#[49]⟩ : ByteArray).size = 1 := rfl
        go_wp2
        refine bodyPost_ret (v := .string (s ++ ⟨#[49]⟩)) (by simp [results, Try.results59, go_sem]) rfl ⟨_, rfl, ?_, R2.out, G2.out⟩
        rw [ByteArray.size_append, hz1]
        omega
      · have hz1 : (⟨#[10]⟩ : ByteArray).size = 1 := rfl
        go_wp2
        refine bodyPost_ret (v := .string (s ++ ⟨#[10]⟩)) (by simp [results, Try.results59, go_sem]) rfl ⟨_, rfl, ?_, R2.out, G2.out⟩
        rw [ByteArray.size_append, hz1]
        omega
      · have hz1 : (⟨#[32]⟩ : ByteArray).size = 1 := rfl
        go_wp2
        refine bodyPost_ret (v := .string (s ++ ⟨#[32]⟩)) (by simp [results, Try.results59, go_sem]) rfl ⟨_, rfl, ?_, R2.out, G2.out⟩
        rw [ByteArray.size_append, hz1]
        omega
    · by_cases e2 : b = 2
      · subst e2
        by_cases hz : (0 : Int) < (s.size : Int)
        · go_wp2_with fail
          refine (below_any (s.size : Int) rd A n c _ hn (by omega) R1.out).mono ?_
          rintro e w2 ⟨i, ⟨i0, i1⟩, rfl, hr, hg⟩
          have R2 := Lib.hid hr
          have G2 := Lib.hid (grown_trans G1.out hg)
          have hl2 := RdAny.lt hr
          clear hr hg
          have i2 : i < (s.size : Int) := by omega
          obtain ⟨j, rfl⟩ : ∃ j : Nat, i = (j : Int) := ⟨i.toNat, by omega⟩
          have j1 : j < s.size := by omega
          obtain ⟨p, hp⟩ : ∃ p, s.extract 0 j = p := ⟨_, rfl⟩
          obtain ⟨q, hq⟩ : ∃ q, s.extract (j + 1) s.size = q := ⟨_, rfl⟩
          have hps : p.size = j := by rw [← hp, ByteArray.size_extract]; omega
          have hqs : q.size = s.size - (j + 1) := by rw [← hq, ByteArray.size_extract]; omega
          have HPQ := Lib.hid (show p.size + 1 + q.size ≤ 1001 from by omega)
          have t1 : ((j : Int) + 1).toNat = j + 1 := by omega
          have k1 : (0 : Int) ≤ (j : Int) + 1 := by omega
          have k3 : j ≤ s.size := by omega
          have hw := wrap_succ j (by omega)
          have k2 : (j : Int) + 1 ≤ (s.size : Int) := by omega
          have n1 : ¬ (9223372036854775807 < p.size + 1) := by omega
          have n2 : ¬ (9223372036854775807 < p.size + 1 + q.size) := by omega
          clear hps hqs
          go_wp2_with fail
          refine wp_region_held_drew (S := fun wx => True) (by kernel_rfl) trivial (fun hHeld => ?_)
          refine wpAnyH_take (i := 0) (v := ?_) rfl (by kernel_rfl) (by kernel_rfl) (by kernel_rfl) (fun _ _ _ h => h) (Or.inl ⟨by kernel_rfl, ?_⟩) (by assumption) ?_
          rotate_left
          · (intro wx hSw; (try dsimp only at hSw); go_simp; try (with_reducible rfl))
          try simp only [Act.put, List.getElem_toArray, List.getElem_cons_succ, List.getElem_cons_zero, List.setIfInBounds_toArray, List.set_cons_zero, List.set_cons_succ]
          refine wpAnyH_take (i := 1) (v := ?_) rfl (by kernel_rfl) (by kernel_rfl) (by kernel_rfl) (fun _ _ _ h => h) (Or.inl ⟨by kernel_rfl, ?_⟩) (by assumption) ?_
          rotate_left
          · (intro wx hSw; (try dsimp only at hSw); go_simp; try (with_reducible rfl))
          try simp only [Act.put, List.getElem_toArray, List.getElem_cons_succ, List.getElem_cons_zero, List.setIfInBounds_toArray, List.set_cons_zero, List.set_cons_succ]
          refine wpAnyH_take (i := 2) (v := ?_) rfl (by kernel_rfl) (by kernel_rfl) (by kernel_rfl) (fun _ _ _ h => h) (Or.inl ⟨by kernel_rfl, ?_⟩) (by assumption) ?_
          rotate_left
          · (intro wx hSw; (try dsimp only at hSw); go_simp; try (with_reducible rfl))
          try simp only [Act.put, List.getElem_toArray, List.getElem_cons_succ, List.getElem_cons_zero, List.setIfInBounds_toArray, List.set_cons_zero, List.set_cons_succ]
          refine wpAnyH_take (i := 4) (v := ?_) rfl (by kernel_rfl) (by kernel_rfl) (by kernel_rfl) (fun _ _ _ h => h) (Or.inl ⟨by kernel_rfl, ?_⟩) (by assumption) ?_
          rotate_left
          · (intro wx hSw; (try dsimp only at hSw); go_simp; try (with_reducible rfl))
          try simp only [Act.put, List.getElem_toArray, List.getElem_cons_succ, List.getElem_cons_zero, List.setIfInBounds_toArray, List.set_cons_zero, List.set_cons_succ]
          refine wpAnyH_take (i := 9) (v := ?_) rfl (by kernel_rfl) (by kernel_rfl) (by kernel_rfl) (fun _ _ _ h => h) (Or.inl ⟨by kernel_rfl, ?_⟩) (by assumption) ?_
          rotate_left
          · (intro wx hSw; (try dsimp only at hSw); go_simp; try (with_reducible rfl))
          try simp only [Act.put, List.getElem_toArray, List.getElem_cons_succ, List.getElem_cons_zero, List.setIfInBounds_toArray, List.set_cons_zero, List.set_cons_succ]
          refine wpAnyH_take (i := 10) (v := ?_) rfl (by kernel_rfl) (by kernel_rfl) (by kernel_rfl) (fun _ _ _ h => h) (Or.inl ⟨by kernel_rfl, ?_⟩) (by assumption) ?_
          rotate_left
          · (intro wx hSw; (try dsimp only at hSw); go_simp; try (with_reducible rfl))
          try simp only [Act.put, List.getElem_toArray, List.getElem_cons_succ, List.getElem_cons_zero, List.setIfInBounds_toArray, List.set_cons_zero, List.set_cons_succ]
          refine wpAnyH_take (i := 11) (v := ?_) rfl (by kernel_rfl) (by kernel_rfl) (by kernel_rfl) (fun _ _ _ h => h) (Or.inl ⟨by kernel_rfl, ?_⟩) (by assumption) ?_
          rotate_left
          · (intro wx hSw; (try dsimp only at hSw); go_simp; try (with_reducible rfl))
          try simp only [Act.put, List.getElem_toArray, List.getElem_cons_succ, List.getElem_cons_zero, List.setIfInBounds_toArray, List.set_cons_zero, List.set_cons_succ]
          refine wpAnyH_take (i := 12) (v := ?_) rfl (by kernel_rfl) (by kernel_rfl) (by kernel_rfl) (fun _ _ _ h => h) (Or.inl ⟨by kernel_rfl, ?_⟩) (by assumption) ?_
          rotate_left
          · (intro wx hSw; (try dsimp only at hSw); go_simp; try (with_reducible rfl))
          try simp only [Act.put, List.getElem_toArray, List.getElem_cons_succ, List.getElem_cons_zero, List.setIfInBounds_toArray, List.set_cons_zero, List.set_cons_succ]
          refine wpAnyH_ready (rs := [3, 5]) (by kernel_rfl) (by simp) ?_
          refine AllReadyH.cons rfl (fun K hK => ?_) (AllReadyH.cons rfl (fun K hK => ?_) AllReadyH.nil)
          · go_simp
            refine hK.out _ _ ?_ (fun hHeld => ?_)
            · trivial
            clear hK K
            try simp only [Act.put, List.getElem_toArray, List.getElem_cons_succ, List.getElem_cons_zero, List.setIfInBounds_toArray, List.set_cons_zero, List.set_cons_succ]
            refine wpAnyH_ready (rs := [5]) (by kernel_rfl) (by simp) ?_
            refine AllReadyH.cons rfl (fun K hK => ?_) AllReadyH.nil
            go_simp
            (go_at_call 57; refine (below_any 6 rd A n c _ hn (by omega) (R2.out.bl (by repeat' (first | exact Bl.refl _ | with_reducible assumption | with_reducible refine Bl.drew_ ?_ | with_reducible refine Bl.drewN_ ?_ _ | with_reducible refine Bl.alloc_ ?_ _ | with_reducible refine Bl.trans_ ?_ (by assumption) | with_reducible refine Bl.trans_ ?_ (And.left (by assumption)))))).mono ?_; rintro e w3 ⟨x, ⟨x0, x1⟩, rfl, hr, hg⟩)
            have R3 := Lib.hid hr
            have x6 : x < 6 := by omega
            have GA := Lib.hid hg
            obtain ⟨y, hc, hy⟩ := six_cells w2 w3 rd x x0 x6 hl2 (grown_trans (bl_grown (Bl.drew_ (Bl.refl _)) _) GA.out)
            have RF := R3
            have GF := Lib.hid (grown_trans G2.out (grown_trans (bl_grown (by repeat' (first | exact Bl.refl _ | with_reducible assumption | with_reducible refine Bl.drew_ ?_ | with_reducible refine Bl.drewN_ ?_ _ | with_reducible refine Bl.alloc_ ?_ _ | with_reducible refine Bl.trans_ ?_ (by assumption) | with_reducible refine Bl.trans_ ?_ (And.left (by assumption)))) _) GA.out))
            clear hr hg
            try (go_wp2_with fail)
            refine hK.out _ _ ?_ (fun hHeld => ?_)
            · trivial
            clear hK K
            try simp only [Act.put, List.getElem_toArray, List.getElem_cons_succ, List.getElem_cons_zero, List.setIfInBounds_toArray, List.set_cons_zero, List.set_cons_succ]
            refine wpAnyH_take (i := 6) (v := ?_) rfl (by kernel_rfl) (by kernel_rfl) (by kernel_rfl) (fun _ _ _ h => h) (Or.inl ⟨by kernel_rfl, ?_⟩) (by assumption) ?_
            rotate_left
            · (intro wx hSw; (try dsimp only at hSw); go_simp; try (with_reducible rfl))
            try simp only [Act.put, List.getElem_toArray, List.getElem_cons_succ, List.getElem_cons_zero, List.setIfInBounds_toArray, List.set_cons_zero, List.set_cons_succ]
            refine wpAnyH_ready (rs := [7]) (by kernel_rfl) (by simp) ?_
            refine AllReadyH.cons rfl (fun K hK => ?_) AllReadyH.nil
            go_simp
            refine hK.out _ _ ?_ (fun hHeld => ?_)
            · trivial
            clear hK K
            try simp only [Act.put, List.getElem_toArray, List.getElem_cons_succ, List.getElem_cons_zero, List.setIfInBounds_toArray, List.set_cons_zero, List.set_cons_succ]
            refine wpAnyH_take (i := 8) (v := ?_) rfl (by kernel_rfl) (by kernel_rfl) (by kernel_rfl) (fun _ _ _ h => h) (Or.inl ⟨by kernel_rfl, ?_⟩) (by assumption) ?_
            rotate_left
            · (intro wx hSw; (try dsimp only at hSw); go_simp; try (with_reducible rfl))
            try simp only [Act.put, List.getElem_toArray, List.getElem_cons_succ, List.getElem_cons_zero, List.setIfInBounds_toArray, List.set_cons_zero, List.set_cons_succ]
            refine wpAnyH_take (i := 13) (v := ?_) rfl (by kernel_rfl) (by kernel_rfl) (by kernel_rfl) (fun _ _ _ h => h) (Or.inl ⟨by kernel_rfl, ?_⟩) (by assumption) ?_
            rotate_left
            · (intro wx hSw; (try dsimp only at hSw); go_simp; try (with_reducible rfl))
            try simp only [Act.put, List.getElem_toArray, List.getElem_cons_succ, List.getElem_cons_zero, List.setIfInBounds_toArray, List.set_cons_zero, List.set_cons_succ]
            refine wpAnyH_ready (rs := [14]) (by kernel_rfl) (by simp) ?_
            refine AllReadyH.cons rfl (fun K hK => ?_) AllReadyH.nil
            go_simp
            refine hK.out _ _ ?_ (fun hHeld => ?_)
            · trivial
            clear hK K
            try simp only [Act.put, List.getElem_toArray, List.getElem_cons_succ, List.getElem_cons_zero, List.setIfInBounds_toArray, List.set_cons_zero, List.set_cons_succ]
            refine wpAnyH_done (by kernel_rfl) ?_ _
            go_wp2
            refine bodyPost_ret (v := .string (p ++ y ++ q)) (by simp [results, Try.results59, go_sem]) rfl ⟨_, rfl, ?_, RF.out, GF.out⟩
            rw [ByteArray.size_append, ByteArray.size_append, hy]
            have := HPQ.out
            omega
          · go_simp
            (go_at_call 57; refine (below_any 6 rd A n c _ hn (by omega) (R2.out.bl (by repeat' (first | exact Bl.refl _ | with_reducible assumption | with_reducible refine Bl.drew_ ?_ | with_reducible refine Bl.drewN_ ?_ _ | with_reducible refine Bl.alloc_ ?_ _ | with_reducible refine Bl.trans_ ?_ (by assumption) | with_reducible refine Bl.trans_ ?_ (And.left (by assumption)))))).mono ?_; rintro e w3 ⟨x, ⟨x0, x1⟩, rfl, hr, hg⟩)
            have R3 := Lib.hid hr
            have x6 : x < 6 := by omega
            have GA := Lib.hid hg
            clear hr hg
            obtain ⟨y, hc, hy⟩ := six_new w3 x x0 x6
            have RF := Lib.hid (R3.out.bl (Bl.alloc_ (Bl.refl w3) (.cells #[.string ⟨#[49]⟩, .string ⟨#[48]⟩, .string ⟨#[10]⟩, .string ⟨#[120]⟩, .string ⟨#[32]⟩, .string ⟨#[57]⟩] 9)))
            have GF := Lib.hid (grown_bl (grown_trans G2.out (grown_trans (bl_grown (by repeat' (first | exact Bl.refl _ | with_reducible assumption | with_reducible refine Bl.drew_ ?_ | with_reducible refine Bl.drewN_ ?_ _ | with_reducible refine Bl.alloc_ ?_ _ | with_reducible refine Bl.trans_ ?_ (by assumption) | with_reducible refine Bl.trans_ ?_ (And.left (by assumption)))) _) GA.out)) (Bl.alloc_ (Bl.refl w3) (.cells #[.string ⟨#[49]⟩, .string ⟨#[48]⟩, .string ⟨#[10]⟩, .string ⟨#[120]⟩, .string ⟨#[32]⟩, .string ⟨#[57]⟩] 9)))
            try (go_wp2_with fail)
            refine hK.out _ _ ?_ (fun hHeld => ?_)
            · trivial
            clear hK K
            try simp only [Act.put, List.getElem_toArray, List.getElem_cons_succ, List.getElem_cons_zero, List.setIfInBounds_toArray, List.set_cons_zero, List.set_cons_succ]
            refine wpAnyH_ready (rs := [3]) (by kernel_rfl) (by simp) ?_
            refine AllReadyH.cons rfl (fun K hK => ?_) AllReadyH.nil
            go_simp
            refine hK.out _ _ ?_ (fun hHeld => ?_)
            · trivial
            clear hK K
            try simp only [Act.put, List.getElem_toArray, List.getElem_cons_succ, List.getElem_cons_zero, List.setIfInBounds_toArray, List.set_cons_zero, List.set_cons_succ]
            refine wpAnyH_take (i := 6) (v := ?_) rfl (by kernel_rfl) (by kernel_rfl) (by kernel_rfl) (fun _ _ _ h => h) (Or.inl ⟨by kernel_rfl, ?_⟩) (by assumption) ?_
            rotate_left
            · (intro wx hSw; (try dsimp only at hSw); go_simp; try (with_reducible rfl))
            try simp only [Act.put, List.getElem_toArray, List.getElem_cons_succ, List.getElem_cons_zero, List.setIfInBounds_toArray, List.set_cons_zero, List.set_cons_succ]
            refine wpAnyH_ready (rs := [7]) (by kernel_rfl) (by simp) ?_
            refine AllReadyH.cons rfl (fun K hK => ?_) AllReadyH.nil
            go_simp
            refine hK.out _ _ ?_ (fun hHeld => ?_)
            · trivial
            clear hK K
            try simp only [Act.put, List.getElem_toArray, List.getElem_cons_succ, List.getElem_cons_zero, List.setIfInBounds_toArray, List.set_cons_zero, List.set_cons_succ]
            refine wpAnyH_take (i := 8) (v := ?_) rfl (by kernel_rfl) (by kernel_rfl) (by kernel_rfl) (fun _ _ _ h => h) (Or.inl ⟨by kernel_rfl, ?_⟩) (by assumption) ?_
            rotate_left
            · (intro wx hSw; (try dsimp only at hSw); go_simp; try (with_reducible rfl))
            try simp only [Act.put, List.getElem_toArray, List.getElem_cons_succ, List.getElem_cons_zero, List.setIfInBounds_toArray, List.set_cons_zero, List.set_cons_succ]
            refine wpAnyH_take (i := 13) (v := ?_) rfl (by kernel_rfl) (by kernel_rfl) (by kernel_rfl) (fun _ _ _ h => h) (Or.inl ⟨by kernel_rfl, ?_⟩) (by assumption) ?_
            rotate_left
            · (intro wx hSw; (try dsimp only at hSw); go_simp; try (with_reducible rfl))
            try simp only [Act.put, List.getElem_toArray, List.getElem_cons_succ, List.getElem_cons_zero, List.setIfInBounds_toArray, List.set_cons_zero, List.set_cons_succ]
            refine wpAnyH_ready (rs := [14]) (by kernel_rfl) (by simp) ?_
            refine AllReadyH.cons rfl (fun K hK => ?_) AllReadyH.nil
            go_simp
            refine hK.out _ _ ?_ (fun hHeld => ?_)
            · trivial
            clear hK K
            try simp only [Act.put, List.getElem_toArray, List.getElem_cons_succ, List.getElem_cons_zero, List.setIfInBounds_toArray, List.set_cons_zero, List.set_cons_succ]
            refine wpAnyH_done (by kernel_rfl) ?_ _
            go_wp2
            refine bodyPost_ret (v := .string (p ++ y ++ q)) (by simp [results, Try.results59, go_sem]) rfl ⟨_, rfl, ?_, RF.out, GF.out⟩
            rw [ByteArray.size_append, ByteArray.size_append, hy]
            have := HPQ.out
            omega
        · go_wp2
          refine bodyPost_ret (v := .string s) (by simp [results, Try.results59, go_sem]) rfl ⟨_, rfl, by omega, R1.out, G1.out⟩
      · go_wp2
        refine bodyPost_ret (v := .string s) (by simp [results, Try.results59, go_sem]) rfl ⟨_, rfl, by omega, R1.out, G1.out⟩

end Go.Proofs.Ytebbgoknielkpaa
