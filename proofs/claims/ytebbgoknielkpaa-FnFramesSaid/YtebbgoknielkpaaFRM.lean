/-
  What is proved here: contracts of the laws' small functions on slices of texts. No conditions beyond those that each theorem states.
-/
import Derived.Test.YtebbgoknielkpaaW4
import Derived.Test.YtebbgoknielkpaaFRA
set_option linter.unusedSimpArgs false
set_option linter.unusedVariables false
namespace Go.Proofs.Ytebbgoknielkpaa
open Go.RowKit

theorem infoStr : (Try.prog.info? 9).map (fun i => (i.zero, i.size, i.bytes)) = some (some (.string ⟨#[]⟩), 1, 16) := by kernel_rfl

/-- The cells of texts. -/
def csS (V : List ByteArray) : List Value := V.map .string
theorem csS_at {V : List ByteArray} {k : Nat} (h : k < (csS V).length) : (csS V)[k] = .string (V[k]'(by simpa [csS] using h)) := by simp [csS]
theorem csS_len (V : List ByteArray) : (csS V).length = V.length := by simp [csS]
theorem csS_one' (V : List ByteArray) : ∀ u ∈ csS V, u.oneCell' = true := fun v hv => by
  obtain ⟨x, _, rfl⟩ := List.mem_map.1 hv
  rfl
/-- The slice at A reads as the texts V, below block B. -/
def StrsAt (w : World) (B : Nat) (A : Option Addr) (V : List ByteArray) : Prop := CellsAt w B A (csS V)
theorem StrsAt.cell {w : World} {B : Nat} {A : Option Addr} {V : List ByteArray} (h : StrsAt w B A V) (h0 : 0 < V.length) :
    ∃ g off, A = some ⟨g, off, none⟩ ∧ g < B ∧ ∀ k (hk : k < V.length), w.cell? ⟨g, off + k, none⟩ = some (.string V[k]) := by
  obtain ⟨g, off, e, hg, hc⟩ := h (by rw [csS_len]; omega)
  exact ⟨g, off, e, hg, fun k hk => by rw [hc k (by rw [csS_len]; exact hk), csS_at]⟩
theorem StrsAt.bl {w w' : World} {A : Option Addr} {V : List ByteArray} (h : StrsAt w w.heap.size A V) (hb : Bl w w') : StrsAt w' w'.heap.size A V := CellsAt.bl h hb
theorem StrsAt.bl' {w w' : World} {B : Nat} {A : Option Addr} {V : List ByteArray} (h : StrsAt w B A V) (hB : B ≤ w.heap.size) (hb : Bl w w') : StrsAt w' B A V := CellsAt.bl' h hB hb
theorem StrsAt.more {w : World} {B B' : Nat} {A : Option Addr} {V : List ByteArray} (h : StrsAt w B A V) (hB : B ≤ B') : StrsAt w B' A V := CellsAt.more h hB
theorem StrsAt.grown_ {w w' : World} {B : Nat} {A : Option Addr} {V : List ByteArray} {row : Option Nat} (h : StrsAt w B A V) (hB : B ≤ w.heap.size) (hg : w.grownBy w' row)
    (hne : ∀ g, blockOf A = some g → g < B → some g ≠ row) : StrsAt w' B A V := CellsAt.grown_ h hB hg hne
/-- The value v owns the texts V, in blocks from B on. -/
def OwnS (w : World) (B : Nat) (v : Value) (V : List ByteArray) : Prop := Owns 9 1 w B v V.length (csS V)
theorem OwnS.nil_ (w : World) (B : Nat) : OwnS w B (.slice none 0 0) [] := Owns.nil_ _ _ _ _
theorem OwnS.bl {w w' : World} {B : Nat} {v : Value} {V : List ByteArray} (h : OwnS w B v V) (hb : Bl w w') : OwnS w' B v V := Owns.bl h hb
theorem OwnS.low {w : World} {B B' : Nat} {v : Value} {V : List ByteArray} (h : OwnS w B' v V) (hB : B ≤ B') : OwnS w B v V := Owns.low h hB
theorem OwnS.snoc {w : World} {B : Nat} {v : Value} {V : List ByteArray} {x : ByteArray} {n : Nat} (hn : n = V.length) (h : w.ownsRow B 9 1 v (n + 1) (csS V ++ [.string x])) : OwnS w B v (V ++ [x]) := by
  subst hn
  unfold OwnS
  have e : csS (V ++ [x]) = csS V ++ [.string x] := by simp [csS]
  rw [e, show (V ++ [x]).length = V.length + 1 from by simp]
  exact h
theorem OwnS.shape {w : World} {B : Nat} {v : Value} {V : List ByteArray} (h : OwnS w B v V) :
    ∃ A c, v = .slice A V.length c ∧ V.length ≤ c ∧ StrsAt w w.heap.size A V ∧ RowsW 9 1 w A V.length ∧ ∀ g, blockOf A = some g → B ≤ g ∧ g < w.heap.size := by
  have h' := h
  obtain ⟨A, c, rfl, hc, h1, h2, h3⟩ := Owns.shape h
  refine ⟨A, c, rfl, ?_, h1, h2, Owns.lt_ h⟩
  rcases h'.2 with ⟨e, h0⟩ | ⟨g, cap, cur, e, _, _, hnc, _⟩
  · omega
  · injection e with e1 e2 e3
    omega

theorem str_self (s : ByteArray) : (s.toList == s.toList) = true := by simp

set_option maxHeartbeats 400000 in
theorem eqStringS_yes (A1 A2 : Option Addr) (c1 c2 : Nat) (V : List ByteArray) (n : Nat) (hn : n = V.length) (w : World) (hm : n ≤ 9223372036854775807) (H1 : StrsAt w w.heap.size A1 V) (H2 : StrsAt w w.heap.size A2 V) :
    Calls Try.prog 19 #[.slice A1 n c1, .slice A2 n c2] w fun e w' => e = .returned (.bool true) ∧ Bl w w' := by
  have K1 := Lib.hid H1
  have K2 := Lib.hid H2
  have HN := Lib.hid hn
  have hnn : ((n : Int) != (n : Int)) = false := by simp
  clear H1 H2 hn
  go_enter Try.func19, Try.ntmps19
  go_wp2
  go_loopw [5] (fun i wr => ∃ k : Nat, k ≤ n ∧ i = .int .i64 k ∧ Bl w wr) (fun i _ => n - (intOf i).toNat)
  case atStart => exact ⟨0, by omega, rfl, Bl.refl w⟩
  case round =>
    obtain ⟨k, hk, rfl, hbl⟩ := hrel
    by_cases hlt : k < n
    · have hkl : k < V.length := by have := HN.out; omega
      obtain ⟨g1, o1, rfl, hg1, hc1⟩ := K1.out.cell (by omega)
      obtain ⟨g2, o2, rfl, hg2, hc2⟩ := K2.out.cell (by omega)
      have p1 := hc1 k hkl
      have p2 := hc2 k hkl
      clear hc1 hc2
      rw [← (bcell hbl).1 _ _ hg1] at p1
      rw [← (bcell hbl).1 _ _ hg2] at p2
      generalize V[k] = x at p1 p2
      have hxx := str_self x
      have i1 : (0 : Int) ≤ (k : Int) := by omega
      have i2 : (k : Int) < (n : Int) := by omega
      go_wp2
      go_quiet (fail)
      go_wp2
      go_roundw
      case rel => exact ⟨k + 1, by omega, by go_num, (by repeat' (first | exact Bl.refl _ | with_reducible assumption | with_reducible refine Bl.drew_ ?_ | with_reducible refine Bl.drewN_ ?_ _ | with_reducible refine Bl.alloc_ ?_ _ | with_reducible refine Bl.trans_ ?_ (by assumption) | with_reducible refine Bl.trans_ ?_ (And.left (by assumption))))⟩
      case measure => simp [intOf]; omega
    · go_wp2
      go_ret
      exact ⟨rfl, hbl⟩

/-- The digits of k, ahead of a text. -/
def digs : Nat → Nat → ByteArray → ByteArray
  | 0, _, o => o
  | f + 1, k, o => if k = 0 then o else digs f (k / 10) ((⟨#[UInt8.ofNat (48 + k % 10)]⟩ : ByteArray) ++ o)
theorem digs_fuel : ∀ (f f' k : Nat) (o : ByteArray), k < f → k < f' → digs f k o = digs f' k o
  | 0, _, _, _, h, _ => by omega
  | _, 0, _, _, _, h => by omega
  | f + 1, f' + 1, k, o, h, h' => by
    unfold digs
    by_cases e : k = 0
    · rw [if_pos e, if_pos e]
    · rw [if_neg e, if_neg e]
      exact digs_fuel f f' _ _ (by omega) (by omega)
def dig (k : Nat) (o : ByteArray) : ByteArray := digs (k + 1) k o
theorem dig_zero (o : ByteArray) : dig 0 o = o := by simp [dig, digs]
theorem dig_step {k : Nat} (h : 0 < k) (o : ByteArray) : dig k o = dig (k / 10) ((⟨#[UInt8.ofNat (48 + k % 10)]⟩ : ByteArray) ++ o) := by
  show (if k = 0 then o else digs k (k / 10) _) = _
  rw [if_neg (by omega)]
  exact digs_fuel _ _ _ _ (by omega) (by omega)
/-- The text of a mark. -/
def markB (k : Int) : ByteArray := if k ≤ 0 then ⟨#[109, 48]⟩ else (⟨#[109]⟩ : ByteArray) ++ dig k.toNat ⟨#[]⟩

theorem conv_one (w : World) (d : Nat) (hd : d < 256) :
    (convert 29 9 (.slice (some ⟨w.heap.size, 0, none⟩) 1 1)).run Try.prog (w.alloc (.cells #[.int .u8 (d : Int)] 5)) = .ok (.string ⟨#[UInt8.ofNat d]⟩) (w.alloc (.cells #[.int .u8 (d : Int)] 5)) := by
  refine conv_new w [UInt8.ofNat d] _ _ 1 rfl (fun j hj => ?_)
  have h1 := u8_cell d
  match j, hj with
  | 0, _ => show some _ = some _; simp only [List.getElem_cons_zero]; rw [h1, show (d : Int) % 256 = (d : Int) from by omega]; rfl

set_option maxRecDepth 100000 in
set_option maxHeartbeats 1000000 in
theorem markText_any (k : Int) (hk : k ≤ 1099511627776) (w : World) :
    Calls Try.prog 55 #[.int .i64 k] w fun e w' => (∃ z, e = .returned (.string z) ∧ z = markB k) ∧ Bl w w' := by
  by_cases h0 : k ≤ 0
  · go_enter Try.func55, Try.ntmps55
    go_wp2
    refine bodyPost_ret (v := .string ⟨#[109, 48]⟩) (by simp [results, Try.results55, go_sem]) rfl ⟨⟨_, rfl, ?_⟩, (by repeat' (first | exact Bl.refl _ | with_reducible assumption | with_reducible refine Bl.drew_ ?_ | with_reducible refine Bl.drewN_ ?_ _ | with_reducible refine Bl.alloc_ ?_ _ | with_reducible refine Bl.trans_ ?_ (by assumption) | with_reducible refine Bl.trans_ ?_ (And.left (by assumption))))⟩
    unfold markB; rw [if_pos h0]
  · obtain ⟨q, rfl⟩ : ∃ q : Nat, k = (q : Int) := ⟨k.toNat, by omega⟩
    go_enter Try.func55, Try.ntmps55
    go_wp2
    go_loopw [0, 3] (fun i o wr => ∃ (j : Nat) (z : ByteArray), j ≤ q ∧ i = .int .i64 (j : Int) ∧ o = .string z ∧ z.size + j ≤ q ∧ Hid (dig j z = dig q ⟨#[]⟩) ∧ Bl w wr) (fun i _ _ => (intOf i).toNat)
    case atStart => exact ⟨q, _, by omega, rfl, rfl, by simp [ByteArray.size], Lib.hid rfl, Bl.refl w⟩
    case round =>
      obtain ⟨j, z, hj, rfl, rfl, hz, HD, hbl⟩ := hrel
      by_cases hlt : 0 < j
      · have HS := Lib.hid (dig_step hlt z)
        have hcv := conv_one wr (48 + j % 10) (by omega)
        have e1 : (((48 + j % 10 : Nat)) : Int) = 48 + (j : Int) % 10 := by omega
        rw [e1] at hcv
        have i1 : (0 : Int) < (j : Int) := by omega
        have hs1 : (⟨#[UInt8.ofNat (48 + j % 10)]⟩ : ByteArray).size = 1 := rfl
        generalize (⟨#[UInt8.ofNat (48 + j % 10)]⟩ : ByteArray) = y at hcv HS hs1
        go_wp2
        go_roundw
        case rel =>
          have hsz : (y ++ z).size = 1 + z.size := by rw [ByteArray.size_append, hs1]
          refine ⟨j / 10, y ++ z, by omega, by go_num, rfl, by omega, Lib.hid ?_, (by repeat' (first | exact Bl.refl _ | with_reducible assumption | with_reducible refine Bl.drew_ ?_ | with_reducible refine Bl.drewN_ ?_ _ | with_reducible refine Bl.alloc_ ?_ _ | with_reducible refine Bl.trans_ ?_ (by assumption) | with_reducible refine Bl.trans_ ?_ (And.left (by assumption))))⟩
          rw [← HS.out]; exact HD.out
        case measure => simp [intOf]; omega
      · obtain rfl : j = 0 := by omega
        go_wp2
        refine bodyPost_ret (v := .string ((⟨#[109]⟩ : ByteArray) ++ z)) (by simp [results, Try.results55, go_sem]) rfl ⟨⟨_, rfl, ?_⟩, hbl⟩
        have e := HD.out
        rw [dig_zero] at e
        unfold markB
        rw [if_neg (by omega), e]
        rfl

/-- N cells from A on hold the texts of the marks from k on. -/
def MarkS (w : World) (A : Option Addr) (N : Nat) (k : Int) : Prop := 0 < N → ∃ g off, A = some ⟨g, off, none⟩ ∧ g < w.heap.size ∧ ∀ j, j < N → w.cell? ⟨g, off + j, none⟩ = some (.string (markB (k + j)))
theorem MarkS.bl {w w' : World} {A : Option Addr} {n : Nat} {k : Int} (h : MarkS w A n k) (hb : Bl w w') : MarkS w' A n k := fun h0 => by
  obtain ⟨g, off, e, hg, hc⟩ := h h0
  have hh := (bcell hb).1
  exact ⟨g, off, e, Nat.lt_of_lt_of_le hg hb.size, fun j hj => by rw [hh _ _ hg]; exact hc j hj⟩
/-- What the marks leave. -/
def MarkedS (A : Option Addr) (n : Nat) (k : Int) (w : World) (e : Ending) (w' : World) : Prop :=
  e = .returned (.int .i64 (k + n)) ∧ MarkS w' A n k ∧ w.grownBy w' (blockOf A) ∧ RowsW 9 1 w' A n

set_option maxHeartbeats 1000000 in
theorem markStringS_any (A : Option Addr) (n c : Nat) (k : Int) (w : World) (hn : n ≤ 1048576) (hk0 : 0 ≤ k) (hk1 : k ≤ 1099510579200) (HR : RowsW 9 1 w A n) :
    Calls Try.prog 20 #[.slice A n c, .int .i64 k] w (MarkedS A n k w) := by
  have R := Lib.hid HR
  clear HR
  rcases Nat.eq_zero_or_pos n with rfl | hpos
  · go_enter Try.func20, Try.ntmps20
    go_wp2
    refine wp_loop_rounds 1 ?_
    rw [rounds_succ]
    go_wp2
    go_ret
    exact ⟨ret_int (by simp), fun h => absurd h (by omega), World.grownBy.refl w _, R.out⟩
  · obtain ⟨g, off, m, f, rfl, hm, hr⟩ := R.out hpos
    have hg := hr.lt
    have R0 := Lib.hid hr
    clear hr R
    go_enter Try.func20, Try.ntmps20
    go_wp2
    go_loopw [1, 5] (fun q i wr => ∃ (j : Nat) (f : Nat → Value), j ≤ n ∧ i = .int .i64 j ∧ q = .int .i64 (k + j) ∧ wr.rowIs g 9 m f ∧ w.grownBy wr (some g) ∧
      ∀ t, t < j → f (off + t) = .string (markB (k + t))) (fun _ i _ => n - (intOf i).toNat)
    case atStart => exact ⟨0, f, by omega, rfl, by simp, R0.out, World.grownBy.refl w _, fun t h => absurd h (by omega)⟩
    case round =>
      obtain ⟨j, fj, hj, rfl, rfl, hrj, hgr, hf⟩ := hrel
      have F := Lib.hid hf
      have RJ := Lib.hid hrj
      have GR := Lib.hid hgr
      by_cases hlt : j < n
      · clear hf hrj hgr
        go_wp2_with fail
        refine (markText_any (k + (j : Int)) (by omega) _).mono ?_
        rintro e w1 ⟨⟨z, rfl, hz⟩, hb1⟩
        have HZ := Lib.hid hz
        clear hz
        have R1 := Lib.hid (RJ.out.of_block (Bl.block hb1 RJ.out.lt))
        have G1 := Lib.hid (grown_bl GR.out hb1)
        have q0 := R1.out.cell (i := off + j) (by omega)
        have q1 := R1.out.frozen (off + j)
        go_wp2
        go_roundw
        case rel => 
          refine ⟨j + 1, _, by omega, by go_num, by go_num, R1.out.set (off + j) _, grown_set G1.out (.inl rfl) _, fun t ht => ?_⟩
          rcases Nat.lt_or_ge t j with h | h
          · rw [if_neg (by omega)]
            exact F.out t h
          · have e : t = j := by omega
            subst e
            rw [if_pos rfl, HZ.out]
        case measure => simp [intOf]; omega
      · clear hf hrj hgr
        go_wp2
        go_ret
        have e : j = n := by omega
        subst e
        refine ⟨ret_int (by simp), fun _ => ⟨g, off, rfl, RJ.out.lt, fun t ht => ?_⟩, GR.out, fun _ => ⟨g, off, m, fj, rfl, hm, RJ.out⟩⟩
        rw [← F.out t ht]
        exact RJ.out.cell (by omega)

set_option maxHeartbeats 1000000 in
theorem heldStringS_any (A : Option Addr) (n c : Nat) (k : Int) (w : World) (hn : n ≤ 1048576) (hk0 : 0 ≤ k) (hk1 : k ≤ 1099510579200) (HM : MarkS w A n k) :
    Calls Try.prog 21 #[.slice A n c, .int .i64 k] w fun e w' => e = .returned (.int .i64 (k + n)) ∧ Bl w w' := by
  have M := Lib.hid HM
  clear HM
  rcases Nat.eq_zero_or_pos n with rfl | hpos
  · go_enter Try.func21, Try.ntmps21
    go_wp2
    refine wp_loop_rounds 1 ?_
    rw [rounds_succ]
    go_wp2
    go_ret
    exact ⟨ret_int (by simp), Bl.refl w⟩
  · obtain ⟨g, off, rfl, hg, hc⟩ := M.out hpos
    have C := Lib.hid hc
    clear hc M
    go_enter Try.func21, Try.ntmps21
    go_wp2
    go_loopw [1, 5] (fun q i wr => ∃ j : Nat, j ≤ n ∧ i = .int .i64 j ∧ q = .int .i64 (k + j) ∧ Bl w wr) (fun _ i _ => n - (intOf i).toNat)
    case atStart => exact ⟨0, by omega, rfl, by simp, Bl.refl w⟩
    case round =>
      obtain ⟨j, hj, rfl, rfl, hbl⟩ := hrel
      by_cases hlt : j < n
      · have z1 := C.out j hlt
        have HS := Lib.hid (show ∀ wx, Bl w wx → wx.cell? ⟨g, off + j, none⟩ = some (.string (markB (k + j))) from fun wx hb => ((bcell hb).1 _ _ hg).trans z1)
        clear z1
        have z1 := HS.out wr hbl
        have hxx := str_self (markB (k + j))
        obtain ⟨z, hz⟩ : ∃ z, z = markB (k + j) := ⟨_, rfl⟩
        rw [← hz] at z1 HS hxx
        have HZ := Lib.hid hz
        clear hz
        have BW := Lib.hid hbl
        go_wp2_with fail
        refine wp_region_held_drew (S := fun wx => Bl w wx ∧ wx.cell? ⟨g, off + j, none⟩ = some (.string z)) (by kernel_rfl) ?_ (fun hHeld => ?_)
        · (first | exact ⟨BW.out.drew_, HS.out _ BW.out.drew_⟩ | exact ⟨BW.out.drew_.trans_ hb1, HS.out _ (BW.out.drew_.trans_ hb1)⟩)
        refine wpAnyH_take (i := 0) (v := ?_) rfl (by kernel_rfl) (by kernel_rfl) (by kernel_rfl) (fun _ _ _ h => h) (Or.inl ⟨by kernel_rfl, ?_⟩) (by assumption) ?_
        rotate_left
        · (intro wx hSw; (try dsimp only at hSw); go_simp; try (with_reducible rfl))
        try simp only [Act.put, List.getElem_toArray, List.getElem_cons_succ, List.getElem_cons_zero, List.setIfInBounds_toArray, List.set_cons_zero, List.set_cons_succ]
        refine wpAnyH_take (i := 1) (v := ?_) rfl (by kernel_rfl) (by kernel_rfl) (by kernel_rfl) (fun _ _ _ h => h) (Or.inl ⟨by kernel_rfl, ?_⟩) (by assumption) ?_
        rotate_left
        · (intro wx hSw; (try dsimp only at hSw); go_simp; try (with_reducible rfl))
        try simp only [Act.put, List.getElem_toArray, List.getElem_cons_succ, List.getElem_cons_zero, List.setIfInBounds_toArray, List.set_cons_zero, List.set_cons_succ]
        refine wpAnyH_take (i := 2) (v := ?_) rfl (by kernel_rfl) (by kernel_rfl) (by kernel_rfl) (fun _ _ _ h => h) (Or.inl ⟨by kernel_rfl, ?_⟩) (by assumption) ?_
        rotate_left
        · (intro wx hSw; (try dsimp only at hSw); go_simp; try (with_reducible rfl))
        try simp only [Act.put, List.getElem_toArray, List.getElem_cons_succ, List.getElem_cons_zero, List.setIfInBounds_toArray, List.set_cons_zero, List.set_cons_succ]
        refine wpAnyH_take (i := 3) (v := ?_) rfl (by kernel_rfl) (by kernel_rfl) (by kernel_rfl) (fun _ _ _ h => h) (Or.inl ⟨by kernel_rfl, ?_⟩) (by assumption) ?_
        rotate_left
        · (intro wx hSw; (try dsimp only at hSw); go_simp; try (with_reducible rfl))
        try simp only [Act.put, List.getElem_toArray, List.getElem_cons_succ, List.getElem_cons_zero, List.setIfInBounds_toArray, List.set_cons_zero, List.set_cons_succ]
        refine wpAnyH_take (i := 4) (v := ?_) rfl (by kernel_rfl) (by kernel_rfl) (by kernel_rfl) (fun _ _ _ h => h) (Or.inl ⟨by kernel_rfl, ?_⟩) (by assumption) ?_
        rotate_left
        · (intro wx hSw; (try dsimp only at hSw); go_simp; try (with_reducible rfl))
        try simp only [Act.put, List.getElem_toArray, List.getElem_cons_succ, List.getElem_cons_zero, List.setIfInBounds_toArray, List.set_cons_zero, List.set_cons_succ]
        refine wpAnyH_ready (rs := [5]) (by kernel_rfl) (by simp) ?_
        refine AllReadyH.cons rfl (fun K hK => ?_) AllReadyH.nil
        go_simp
        (go_at_call 55; refine (markText_any (k + (j : Int)) (by omega) _).mono ?_; rintro e w1 ⟨⟨z', rfl, hz'⟩, hb1⟩; obtain rfl : z' = z := hz'.trans HZ.out.symm; clear hz')
        try (go_wp2_with fail)
        refine hK.out _ _ ?_ (fun hHeld => ?_)
        · (first | exact ⟨BW.out.drew_, HS.out _ BW.out.drew_⟩ | exact ⟨BW.out.drew_.trans_ hb1, HS.out _ (BW.out.drew_.trans_ hb1)⟩)
        clear hK K
        try simp only [Act.put, List.getElem_toArray, List.getElem_cons_succ, List.getElem_cons_zero, List.setIfInBounds_toArray, List.set_cons_zero, List.set_cons_succ]
        refine wpAnyH_take (i := 6) (v := ?_) rfl (by kernel_rfl) (by kernel_rfl) (by kernel_rfl) (fun _ _ _ h => h) (Or.inl ⟨by kernel_rfl, ?_⟩) (by assumption) ?_
        rotate_left
        · (intro wx hSw; (try dsimp only at hSw); go_simp; try (with_reducible rfl))
        try simp only [Act.put, List.getElem_toArray, List.getElem_cons_succ, List.getElem_cons_zero, List.setIfInBounds_toArray, List.set_cons_zero, List.set_cons_succ]
        refine wpAnyH_done (by kernel_rfl) ?_ _
        go_wp2
        go_roundw
        case rel => exact ⟨j + 1, by omega, by go_num, by go_num, hHeld.1⟩
        case measure => simp [intOf]; omega
      · go_wp2
        go_ret
        have e : j = n := by omega
        subst e
        exact ⟨ret_int rfl, hbl⟩

end Go.Proofs.Ytebbgoknielkpaa
