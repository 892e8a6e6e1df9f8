/-
  What is proved here: whatever disk comes in reads as two lists of files and a list of ops. No conditions; contracts of the laws' small functions on slices of numbers; toInt64S makes new memory that reads as what it is handed; what a slice of numbers that comes in is made of; files and ops that are appended to a list of one's own; the document's and the program's small questions about names, places and ops; the document's way of putting a file among others, and of taking one out; two files held against each other. No conditions. No conditions beyond those that each theorem states.
-/
import Derived.Test.YtgfmgmcpfefmkaaRows
import Derived.Test.YtgfmgmcpfefmkaaV8G02
import Derived.Test.YtgfmgmcpfefmkaaV8Z0
import Derived.ProofKit
import Derived.OpenShut
import Derived.ShutString
import Derived.ChangeOld
import Derived.Deep.Slices
import Derived.Deep.Fields
import Derived.ChangeSame
import Derived.ChangeMaps5
import Derived.Lib.SmallJoins
import Derived.Laws.StructEq
set_option linter.unusedSimpArgs false
set_option linter.unusedVariables false
namespace Go.Proofs.Ytgfmgmcpfefmkaa
open Go.ChangeShapes Go.WideShapes Go.ChangeAt Go.RowKit Go.Deep Go.Joins

/-- Texts that are no longer than texts may be. -/
def SizesF (L : List Fl) : Prop := ∀ f ∈ L, f.1.size ≤ maxLen ∧ f.2.size ≤ maxLen
def SizesO (L : List Dp) : Prop := ∀ o ∈ L, o.name.size ≤ maxLen ∧ o.to.size ≤ maxLen ∧ o.data.size ≤ maxLen

set_option maxRecDepth 100000 in
theorem open_files {H : Type} {enc : TypeId × Value → H} {W : World} {v : Value} {fuel : Nat} {x : DataW H × List MemPlace} (h : DataW.trod enc Try.prog W 0 (fun _ => true) true fuel 22 [v] = some x) :
    ∃ (A : Option Addr) (n c : Nat) (L : List Fl), v = .slice A n c ∧ n = L.length ∧ n ≤ 9223372036854775807 ∧ FilesAt W W.heap.size A L ∧ SizesF L := by
  rcases open_slice_fields Try.underlying22 Try.underlying96 (by kernel_rfl) (by kernel_rfl) h with ⟨hcs, _⟩ | ⟨a, len, cap, m', D, Pl, hcs, _, hl, hcap, hmm, _, hi⟩
  · simp only [List.cons.injEq, and_true] at hcs
    subst hcs
    exact ⟨none, 0, 0, [], rfl, rfl, by omega, CellsAt.nil_ _ _ _, fun f hf => by simp at hf⟩
  · simp only [List.cons.injEq, and_true] at hcs
    subst hcs
    have hm' : len ≤ m' := by rw [hmm]; simp; omega
    have hF : ∀ i, ∃ t : Fl, i < len → W.cell? (a.add (i * 2)) = some (.string t.1) ∧ W.cell? (a.add (i * 2 + 1)) = some (.string t.2) ∧ t.1.size ≤ maxLen ∧ t.2.size ≤ maxLen := by
      intro i
      by_cases hil : i < len
      · obtain ⟨ys, n', _, _, _, hf⟩ := hi i (by omega)
        obtain ⟨v0, z0, q0, _, t0⟩ := hf 0 _ rfl
        obtain ⟨v1, z1, q1, _, t1⟩ := hf 1 _ rfl
        obtain ⟨x0, e0, _, l0⟩ := DataW.trod_string Try.underlying9 t0
        obtain ⟨x1, e1, _, l1⟩ := DataW.trod_string Try.underlying9 t1
        simp only [List.cons.injEq, and_true] at e0 e1
        subst e0; subst e1
        exact ⟨(x0, x1), fun _ => ⟨q0, q1, l0, l1⟩⟩
      · exact ⟨(⟨#[]⟩, ⟨#[]⟩), fun h => absurd h hil⟩
    obtain ⟨F, hF⟩ := Classical.axiomOfChoice hF
    refine ⟨some a, len, cap, (List.range len).map F, rfl, by simp, ?_, fun h0 => ?_, fun f hf => ?_⟩
    · unfold maxLen at hcap; omega
    · have h0' : 0 < len := by
        rw [csE_length encF_len] at h0
        simp at h0; omega
      obtain ⟨b, off, spot⟩ := a
      have hc0 := (hF 0 h0').1
      have hspot : spot = none := by simpa [Addr.add] using World.cell?_spot hc0
      subst hspot
      refine ⟨b, off, rfl, ?_, fun j hj => ?_⟩
      · have := World.block_lt_of_cell? _ _ hc0
        simpa [Addr.add] using this
      · have hj' : j < len * 2 := by rw [csE_length encF_len] at hj; simpa using hj
        have hk' : j / 2 < len := by omega
        obtain ⟨a1, a2, _, _⟩ := hF (j / 2) hk'
        rw [Go.WideShapes.add_plain] at a1 a2
        have hat := csE_at encF_len ((List.range len).map F) (j / 2) (j % 2) (by simpa using hk') (by omega)
        have ej : j / 2 * 2 + j % 2 = j := by omega
        rw [ej, List.getElem?_eq_getElem hj] at hat
        simp only [List.getElem_map, List.getElem_range] at hat
        have hm2 : j % 2 = 0 ∨ j % 2 = 1 := by omega
        rcases hm2 with hm2 | hm2
        · rw [hm2] at hat ej
          have e0 : (csE encF ((List.range len).map F))[j] = .string (F (j / 2)).1 := by
            have : (encF (F (j / 2)))[0]? = some (.string (F (j / 2)).1) := rfl
            rw [this] at hat
            injection hat
          rw [e0, ← a1, show off + j / 2 * 2 = off + j from by omega]
        · rw [hm2] at hat ej
          have e0 : (csE encF ((List.range len).map F))[j] = .string (F (j / 2)).2 := by
            have : (encF (F (j / 2)))[1]? = some (.string (F (j / 2)).2) := rfl
            rw [this] at hat
            injection hat
          rw [e0, ← a2, show off + (j / 2 * 2 + 1) = off + j from by omega]
    · obtain ⟨i, hi', rfl⟩ := List.mem_map.1 hf
      obtain ⟨_, _, l0, l1⟩ := hF i (List.mem_range.1 hi')
      exact ⟨l0, l1⟩

set_option maxRecDepth 100000 in
theorem open_ops {H : Type} {enc : TypeId × Value → H} {W : World} {v : Value} {fuel : Nat} {x : DataW H × List MemPlace} (h : DataW.trod enc Try.prog W 0 (fun _ => true) true fuel 23 [v] = some x) :
    ∃ (A : Option Addr) (n c : Nat) (L : List Dp), v = .slice A n c ∧ n = L.length ∧ n ≤ 9223372036854775807 ∧ OpsAt W W.heap.size A L ∧ SizesO L := by
  rcases open_slice_fields Try.underlying23 Try.underlying98 (by kernel_rfl) (by kernel_rfl) h with ⟨hcs, _⟩ | ⟨a, len, cap, m', D, Pl, hcs, _, hl, hcap, hmm, _, hi⟩
  · simp only [List.cons.injEq, and_true] at hcs
    subst hcs
    exact ⟨none, 0, 0, [], rfl, rfl, by omega, CellsAt.nil_ _ _ _, fun f hf => by simp at hf⟩
  · simp only [List.cons.injEq, and_true] at hcs
    subst hcs
    have hm' : len ≤ m' := by rw [hmm]; simp; omega
    have hF : ∀ i, ∃ t : Dp, i < len → W.cell? (a.add (i * 4)) = some (.int .i64 t.kind) ∧ W.cell? (a.add (i * 4 + 1)) = some (.string t.name) ∧ W.cell? (a.add (i * 4 + 2)) = some (.string t.to) ∧ W.cell? (a.add (i * 4 + 3)) = some (.string t.data) ∧
        t.name.size ≤ maxLen ∧ t.to.size ≤ maxLen ∧ t.data.size ≤ maxLen := by
      intro i
      by_cases hil : i < len
      · obtain ⟨ys, n', _, _, _, hf⟩ := hi i (by omega)
        obtain ⟨v0, z0, q0, _, t0⟩ := hf 0 _ rfl
        obtain ⟨v1, z1, q1, _, t1⟩ := hf 1 _ rfl
        obtain ⟨v2, z2, q2, _, t2⟩ := hf 2 _ rfl
        obtain ⟨v3, z3, q3, _, t3⟩ := hf 3 _ rfl
        obtain ⟨x0, e0, _, _⟩ := DataW.trod_int Try.underlying2 t0
        obtain ⟨x1, e1, _, l1⟩ := DataW.trod_string Try.underlying9 t1
        obtain ⟨x2, e2, _, l2⟩ := DataW.trod_string Try.underlying9 t2
        obtain ⟨x3, e3, _, l3⟩ := DataW.trod_string Try.underlying9 t3
        simp only [List.cons.injEq, and_true] at e0 e1 e2 e3
        subst e0; subst e1; subst e2; subst e3
        exact ⟨⟨x0, x1, x2, x3⟩, fun _ => ⟨q0, q1, q2, q3, l1, l2, l3⟩⟩
      · exact ⟨⟨0, ⟨#[]⟩, ⟨#[]⟩, ⟨#[]⟩⟩, fun h => absurd h hil⟩
    obtain ⟨F, hF⟩ := Classical.axiomOfChoice hF
    refine ⟨some a, len, cap, (List.range len).map F, rfl, by simp, ?_, fun h0 => ?_, fun f hf => ?_⟩
    · unfold maxLen at hcap; omega
    · have h0' : 0 < len := by
        rw [csE_length encO_len] at h0
        simp at h0; omega
      obtain ⟨b, off, spot⟩ := a
      have hc0 := (hF 0 h0').1
      have hspot : spot = none := by simpa [Addr.add] using World.cell?_spot hc0
      subst hspot
      refine ⟨b, off, rfl, ?_, fun j hj => ?_⟩
      · have := World.block_lt_of_cell? _ _ hc0
        simpa [Addr.add] using this
      · have hj' : j < len * 4 := by rw [csE_length encO_len] at hj; simpa using hj
        have hk' : j / 4 < len := by omega
        obtain ⟨a1, a2, a3, a4, _⟩ := hF (j / 4) hk'
        rw [Go.WideShapes.add_plain] at a1 a2 a3 a4
        have hat := csE_at encO_len ((List.range len).map F) (j / 4) (j % 4) (by simpa using hk') (by omega)
        have ej : j / 4 * 4 + j % 4 = j := by omega
        rw [ej, List.getElem?_eq_getElem hj] at hat
        simp only [List.getElem_map, List.getElem_range] at hat
        have hm2 : j % 4 = 0 ∨ j % 4 = 1 ∨ j % 4 = 2 ∨ j % 4 = 3 := by omega
        rcases hm2 with hm2 | hm2 | hm2 | hm2
        · rw [hm2] at hat ej
          have e0 : (csE encO ((List.range len).map F))[j] = .int .i64 (F (j / 4)).kind := by
            have : (encO (F (j / 4)))[0]? = some (.int .i64 (F (j / 4)).kind) := rfl
            rw [this] at hat
            injection hat
          rw [e0, ← a1, show off + j / 4 * 4 = off + j from by omega]
        · rw [hm2] at hat ej
          have e0 : (csE encO ((List.range len).map F))[j] = .string (F (j / 4)).name := by
            have : (encO (F (j / 4)))[1]? = some (.string (F (j / 4)).name) := rfl
            rw [this] at hat
            injection hat
          rw [e0, ← a2, show off + (j / 4 * 4 + 1) = off + j from by omega]
        · rw [hm2] at hat ej
          have e0 : (csE encO ((List.range len).map F))[j] = .string (F (j / 4)).to := by
            have : (encO (F (j / 4)))[2]? = some (.string (F (j / 4)).to) := rfl
            rw [this] at hat
            injection hat
          rw [e0, ← a3, show off + (j / 4 * 4 + 2) = off + j from by omega]
        · rw [hm2] at hat ej
          have e0 : (csE encO ((List.range len).map F))[j] = .string (F (j / 4)).data := by
            have : (encO (F (j / 4)))[3]? = some (.string (F (j / 4)).data) := rfl
            rw [this] at hat
            injection hat
          rw [e0, ← a4, show off + (j / 4 * 4 + 3) = off + j from by omega]
    · obtain ⟨i, hi', rfl⟩ := List.mem_map.1 hf
      obtain ⟨_, _, _, _, l0, l1, l2⟩ := hF i (List.mem_range.1 hi')
      exact ⟨l0, l1, l2⟩

set_option maxRecDepth 100000 in
theorem open_disk {H : Type} {enc : TypeId × Value → H} {W : World} {r : Reach} {b0 : Nat} {v : Value} {d : DataW H} {p : List MemPlace} (hv : Value.okWide Try.prog W r b0 25 v)
    (h : DataW.Trod enc Try.prog W 0 (fun _ => true) true 25 v d p) :
    ∃ (A1 A2 A3 : Option Addr) (n1 c1 n2 c2 n3 c3 : Nat) (L1 L2 : List Fl) (O : List Dp), v = .agg #[.slice A1 n1 c1, .slice A2 n2 c2, .slice A3 n3 c3] ∧ n1 = L1.length ∧ n2 = L2.length ∧ n3 = O.length ∧
      n1 ≤ 9223372036854775807 ∧ n2 ≤ 9223372036854775807 ∧ n3 ≤ 9223372036854775807 ∧ FilesAt W W.heap.size A1 L1 ∧ FilesAt W W.heap.size A2 L2 ∧ OpsAt W W.heap.size A3 O ∧ SizesF L1 ∧ SizesF L2 ∧ SizesO O := by
  obtain ⟨v0, v1, v2, y0, y1, y2, m, rfl, _, _, h0, h1, h2⟩ := open_agg3 Try.underlying25 (by kernel_rfl) (by kernel_rfl) hv h
  obtain ⟨A1, n1, c1, L1, rfl, e1, m1, f1, s1⟩ := open_files h0
  obtain ⟨A2, n2, c2, L2, rfl, e2, m2, f2, s2⟩ := open_files h1
  obtain ⟨A3, n3, c3, O, rfl, e3, m3, f3, s3⟩ := open_ops h2
  exact ⟨A1, A2, A3, n1, c1, n2, c2, n3, c3, L1, L2, O, rfl, e1, e2, e3, m1, m2, m3, f1, f2, f3, s1, s2, s3⟩


end Go.Proofs.Ytgfmgmcpfefmkaa

set_option linter.unusedSimpArgs false
set_option linter.unusedVariables false
namespace Go.Proofs.Ytgfmgmcpfefmkaa
open Go.RowKit

theorem infoInt : (Try.prog.info? 2).map (fun i => (i.zero, i.size, i.bytes)) = some (some (.int .i64 0), 1, 8) := by kernel_rfl

/-- The slice at A reads as the numbers V, below block B. -/
def IntsAt (w : World) (B : Nat) (A : Option Addr) (V : List Int) : Prop := CellsAt w B A (csI V)
theorem IntsAt.cell {w : World} {B : Nat} {A : Option Addr} {V : List Int} (h : IntsAt w B A V) (h0 : 0 < V.length) :
    ∃ g off, A = some ⟨g, off, none⟩ ∧ g < B ∧ ∀ k (hk : k < V.length), w.cell? ⟨g, off + k, none⟩ = some (.int .i64 V[k]) := by
  obtain ⟨g, off, e, hg, hc⟩ := h (by rw [csI_len]; omega)
  exact ⟨g, off, e, hg, fun k hk => by rw [hc k (by rw [csI_len]; exact hk), csI_at]⟩
theorem IntsAt.bl {w w' : World} {A : Option Addr} {V : List Int} (h : IntsAt w w.heap.size A V) (hb : Bl w w') : IntsAt w' w'.heap.size A V := CellsAt.bl h hb
theorem IntsAt.more {w : World} {B B' : Nat} {A : Option Addr} {V : List Int} (h : IntsAt w B A V) (hB : B ≤ B') : IntsAt w B' A V := CellsAt.more h hB
theorem IntsAt.grown_ {w w' : World} {B : Nat} {A : Option Addr} {V : List Int} {row : Option Nat} (h : IntsAt w B A V) (hB : B ≤ w.heap.size) (hg : w.grownBy w' row)
    (hne : ∀ g, blockOf A = some g → g < B → some g ≠ row) : IntsAt w' B A V := CellsAt.grown_ h hB hg hne
/-- The value v owns the numbers V, in blocks from B on. -/
def OwnN (w : World) (B : Nat) (v : Value) (V : List Int) : Prop := Owns 2 1 w B v V.length (csI V)
theorem OwnN.nil_ (w : World) (B : Nat) : OwnN w B (.slice none 0 0) [] := Owns.nil_ _ _ _ _
theorem OwnN.bl {w w' : World} {B : Nat} {v : Value} {V : List Int} (h : OwnN w B v V) (hb : Bl w w') : OwnN w' B v V := Owns.bl h hb
theorem OwnN.low {w : World} {B B' : Nat} {v : Value} {V : List Int} (h : OwnN w B' v V) (hB : B ≤ B') : OwnN w B v V := Owns.low h hB
theorem OwnN.shape {w : World} {B : Nat} {v : Value} {V : List Int} (h : OwnN w B v V) :
    ∃ A c, v = .slice A V.length c ∧ V.length ≤ c ∧ IntsAt w w.heap.size A V ∧ RowsW 2 1 w A V.length ∧ ∀ g, blockOf A = some g → B ≤ g ∧ g < w.heap.size := by
  have h' := h
  obtain ⟨A, c, rfl, hc, h1, h2, h3⟩ := Owns.shape h
  refine ⟨A, c, rfl, ?_, h1, h2, Owns.lt_ h⟩
  rcases h'.2 with ⟨e, h0⟩ | ⟨g, cap, cur, e, _, _, hnc, _⟩
  · omega
  · injection e with e1 e2 e3
    omega

set_option maxHeartbeats 400000 in
theorem eqInt64S_yes (A1 A2 : Option Addr) (c1 c2 : Nat) (V : List Int) (n : Nat) (hn : n = V.length) (w : World) (hm : n ≤ 9223372036854775807) (H1 : IntsAt w w.heap.size A1 V) (H2 : IntsAt w w.heap.size A2 V) :
    Calls Try.prog 14 #[.slice A1 n c1, .slice A2 n c2] w fun e w' => e = .returned (.bool true) ∧ Bl w w' := by
  have K1 := Lib.hid H1
  have K2 := Lib.hid H2
  have HN := Lib.hid hn
  have hnn : ((n : Int) != (n : Int)) = false := by simp
  clear H1 H2 hn
  go_enter Try.func14, Try.ntmps14
  go_wp2
  go_loopw [5] (fun i wr => ∃ k : Nat, k ≤ n ∧ i = .int .i64 k ∧ Bl w wr) (fun i _ => n - (intOf i).toNat)
  case atStart => exact ⟨0, by omega, rfl, Bl.refl w⟩
  case round =>
    obtain ⟨k, hk, rfl, hbl⟩ := hrel
    by_cases hlt : k < n
    · have hkl : k < V.length := by have := HN.out; omega
      obtain ⟨g1, o1, rfl, hg1, hc1⟩ := K1.out.cell (by omega)
      obtain ⟨g2, o2, rfl, hg2, hc2⟩ := K2.out.cell (by omega)
      have p1 := hc1 k hkl
      have p2 := hc2 k hkl
      clear hc1 hc2
      rw [← (bcell hbl).1 _ _ hg1] at p1
      rw [← (bcell hbl).1 _ _ hg2] at p2
      generalize V[k] = x at p1 p2
      have hxx : (x != x) = false := by simp
      have i1 : (0 : Int) ≤ (k : Int) := by omega
      have i2 : (k : Int) < (n : Int) := by omega
      go_wp2
      go_quiet (fail)
      go_wp2
      go_roundw
      case rel => exact ⟨k + 1, by omega, by go_num, (by repeat' (first | exact Bl.refl _ | with_reducible assumption | with_reducible refine Bl.drew_ ?_ | with_reducible refine Bl.drewN_ ?_ _ | with_reducible refine Bl.alloc_ ?_ _ | with_reducible refine Bl.trans_ ?_ (by assumption) | with_reducible refine Bl.trans_ ?_ (And.left (by assumption))))⟩
      case measure => simp [intOf]; omega
    · go_wp2
      go_ret
      exact ⟨rfl, hbl⟩

set_option maxHeartbeats 1000000 in
theorem markInt64S_any (A : Option Addr) (n c : Nat) (k : Int) (w : World) (hn : n ≤ 1048576) (hk0 : 0 ≤ k) (hk1 : k ≤ 1099511627776) (HR : RowsW 2 1 w A n) :
    Calls Try.prog 16 #[.slice A n c, .int .i64 k] w (MarkRows 2 1 A n k w) := by
  have R := Lib.hid HR
  clear HR
  rcases Nat.eq_zero_or_pos n with rfl | hpos
  · go_enter Try.func16, Try.ntmps16
    go_wp2
    refine wp_loop_rounds 1 ?_
    rw [rounds_succ]
    go_wp2
    go_ret
    exact ⟨ret_int (by simp), fun h => absurd h (by omega), World.grownBy.refl w _, R.out⟩
  · obtain ⟨g, off, m, f, rfl, hm, hr⟩ := R.out hpos
    have hg := hr.lt
    have R0 := Lib.hid hr
    clear hr R
    go_enter Try.func16, Try.ntmps16
    go_wp2
    go_loopw [1, 5] (fun q i wr => ∃ (j : Nat) (f : Nat → Value), j ≤ n ∧ i = .int .i64 j ∧ q = .int .i64 (k + j) ∧ wr.rowIs g 2 m f ∧ w.grownBy wr (some g) ∧ wr.heap.size = w.heap.size ∧
      ∀ t, t < j → f (off + t) = .int .i64 (k + t)) (fun _ i _ => n - (intOf i).toNat)
    case atStart => exact ⟨0, f, by omega, rfl, by simp, R0.out, World.grownBy.refl w _, rfl, fun t h => absurd h (by omega)⟩
    case round =>
      obtain ⟨j, fj, hj, rfl, rfl, hrj, hgr, hsz, hf⟩ := hrel
      have F := Lib.hid hf
      have RJ := Lib.hid hrj
      have GR := Lib.hid hgr
      have SZ := Lib.hid hsz
      by_cases hlt : j < n
      · have q0 := hrj.cell (i := off + j) (by omega)
        have q1 := hrj.frozen (off + j)
        clear hf hrj hgr hsz
        go_wp2
        go_roundw
        case rel => 
          refine ⟨j + 1, _, by omega, by go_num, by go_num, RJ.out.set (off + j) _, grown_set GR.out (.inl rfl) _, by rw [World.size_setCell]; exact SZ.out, fun t ht => ?_⟩
          rcases Nat.lt_or_ge t j with h | h
          · rw [if_neg (by omega)]
            exact F.out t h
          · have e : t = j := by omega
            subst e
            rw [if_pos rfl]
        case measure => simp [intOf]; omega
      · clear hf hrj hgr hsz
        go_wp2
        go_ret
        have e : j = n := by omega
        subst e
        refine ⟨ret_int (by simp), fun _ => ⟨g, off, rfl, by rw [SZ.out]; exact hg, fun t ht => ?_⟩, GR.out, fun _ => ⟨g, off, m, fj, rfl, hm, RJ.out⟩⟩
        rw [Nat.mul_one] at ht
        rw [← F.out t ht]
        exact RJ.out.cell (by omega)


theorem make_ints (n : Nat) (hn : n ≤ 1048576) (w : World) : (Instr.makeSlice 26 (.int .i64 (n : Int)) (.int .i64 (n : Int))).run Try.prog w = .ok (.slice (some ⟨w.heap.size, 0, none⟩) n n) (w.alloc (.cells (madeCells #[.int .i64 0] (n * 1)) 2)) := by
  obtain ⟨i0, hi, hz0, hz1, hz2⟩ := info_parts infoInt
  have h := run_make_rowN (P := Try.prog) 26 2 i0 (.int .i64 0) Try.underlying26 hi hz0 .i64 .i64 n n (Nat.le_refl _) (by rw [hz2]; omega) (by omega) w
  rw [hz1] at h
  exact h


/-- What the marks leave. -/
def MarkN (A : Option Addr) (n : Nat) (k : Int) (w : World) (e : Ending) (w' : World) : Prop :=
  e = .returned (.int .i64 (k + n)) ∧ Marks w' A n k ∧ w.grownBy w' (blockOf A) ∧ RowsW 2 1 w' A n
theorem markN_any (A : Option Addr) (n c : Nat) (k : Int) (w : World) (hn : n ≤ 1048576) (hk0 : 0 ≤ k) (hk1 : k ≤ 1099511627776) (HR : RowsW 2 1 w A n) :
    Calls Try.prog 16 #[.slice A n c, .int .i64 k] w (MarkN A n k w) :=
  (markInt64S_any A n c k w hn hk0 hk1 HR).mono fun e w' h => by
    obtain ⟨a, b, c, d⟩ := h
    rw [Nat.mul_one] at a b
    exact ⟨a, b, c, d⟩

end Go.Proofs.Ytgfmgmcpfefmkaa

set_option linter.unusedSimpArgs false
set_option linter.unusedVariables false
namespace Go.Proofs.Ytgfmgmcpfefmkaa
open Go.ChangeShapes Go.WideShapes Go.ChangeAt Go.RowKit

/-- The cells of n new numbers. -/
def mk1 (n : Nat) : Array Value := madeCells #[.int .i64 0] (n * 1)
theorem size_mk1 (n : Nat) : (mk1 n).size = n := by unfold mk1; rw [size_madeCells, Nat.mul_one]
theorem mk1_row (w : World) (n : Nat) (t : TypeId) : (w.alloc (.cells (mk1 n) t)).rowIs w.heap.size t n (fun i => (mk1 n).getD i undef) := by
  have h := World.rowIs_alloc w (mk1 n) t (fun i => (mk1 n).getD i undef) (fun i hi => by simp [Array.getD, hi])
  rwa [size_mk1] at h
theorem make_nums (n : Nat) (hn : n ≤ 1048576) (w : World) : (Instr.makeSlice 26 (.int .i64 (n : Int)) (.int .i64 (n : Int))).run Try.prog w = .ok (.slice (some ⟨w.heap.size, 0, none⟩) n n) (w.alloc (.cells (mk1 n) 2)) := make_ints n hn w

set_option maxHeartbeats 400000 in
theorem toInt64S_any (A : Option Addr) (n c : Nat) (V : List Int) (hn : n = V.length) (w : World) (hm : n ≤ 1048576) (H1 : IntsAt w w.heap.size A V) :
    Calls Try.prog 11 #[.slice A n c] w fun e w' => e = .returned (.slice (some ⟨w.heap.size, 0, none⟩) n n) ∧ IntsAt w' w'.heap.size (some ⟨w.heap.size, 0, none⟩) V ∧ Bl w w' := by
  have K1 := Lib.hid H1
  have HN := Lib.hid hn
  clear H1 hn
  have hmk := make_nums n hm
  go_enter Try.func11, Try.ntmps11
  go_wp2
  clear hmk
  go_loopw [4] (fun i wr => ∃ k : Nat, k ≤ n ∧ i = .int .i64 k ∧ Bl w wr ∧ ∃ f, wr.rowIs w.heap.size 2 n f ∧ ∀ j (h : j < k) (h' : j < V.length), f j = .int .i64 V[j]) (fun i _ => n - (intOf i).toNat)
  case atStart => exact ⟨0, by omega, rfl, (by repeat' (first | exact Bl.refl _ | with_reducible assumption | with_reducible refine Bl.drew_ ?_ | with_reducible refine Bl.drewN_ ?_ _ | with_reducible refine Bl.alloc_ ?_ _ | with_reducible refine Bl.trans_ ?_ (by assumption) | with_reducible refine Bl.trans_ ?_ (And.left (by assumption)))), _, mk1_row _ _ _, fun j h => absurd h (by omega)⟩
  case round =>
    obtain ⟨k, hk, rfl, hbl, f, hrow, hf⟩ := hrel
    by_cases hlt : k < n
    · have hkl : k < V.length := by have := HN.out; omega
      obtain ⟨g1, o1, rfl, hg1, hc1⟩ := K1.out.cell (by omega)
      have p1 := hc1 k hkl
      rw [← (bcell hbl).1 _ _ hg1] at p1
      have F := Lib.hid hf
      have R := Lib.hid hrow
      clear hf hrow hc1
      have z1 := R.out.cell (i := k) (by omega)
      have y1 := R.out.frozen k
      have i0 : (0 : Int) ≤ (k : Int) := by omega
      have i1 : (k : Int) < (n : Int) := by omega
      generalize hv : V[k] = x at p1
      go_wp2
      go_roundw
      case rel =>
        refine ⟨k + 1, by omega, by go_num, Bl.set_ hbl (Nat.le_refl _) _, _, R.out.set k _, fun j hj hj' => ?_⟩
        rcases Nat.lt_or_ge j k with h | h
        · rw [if_neg (by omega)]
          exact F.out j h hj'
        · have e : j = k := by omega
          subst e
          rw [if_pos rfl, hv]
      case measure => simp [intOf]; omega
    · go_wp2
      go_ret
      have e : k = n := by omega
      subst e
      refine ⟨rfl, fun h0 => ⟨w.heap.size, 0, rfl, hrow.lt, fun j hj => ?_⟩, hbl⟩
      rw [csI_len] at hj
      have hjk : j < k := by have := HN.out; omega
      rw [csI_at, ← hf j hjk hj, Nat.zero_add]
      exact hrow.cell hjk

set_option maxRecDepth 100000 in
theorem open_nums {H : Type} {enc : TypeId × Value → H} {W : World} {r : Reach} {b0 : Nat} {v : Value} {d : DataW H} {p : List MemPlace} (hv : Value.okWide Try.prog W r b0 26 v)
    (h : DataW.Trod enc Try.prog W 0 (fun _ => true) true 26 v d p) :
    ∃ (A : Option Addr) (n c : Nat) (V : List Int), v = .slice A n c ∧ n = V.length ∧ n ≤ 9223372036854775807 ∧ n ≤ c ∧ IntsAt W W.heap.size A V := by
  obtain ⟨a0, len0, cap0, rfl⟩ := okWide_slice Try.underlying26 hv
  obtain ⟨m0, ht1⟩ := h
  rcases open_ints Try.underlying26 Try.underlying2 (by kernel_rfl) ht1 with ⟨hcs, _⟩ | ⟨a, len, cap, zs, hcs, _, hl, hcap, hzs, hmax, hcell, hwf⟩
  · have hcs' : [Value.slice a0 len0 cap0] = [.slice none 0 0] := hcs
    simp only [List.cons.injEq, and_true, Value.slice.injEq] at hcs'
    obtain ⟨rfl, rfl, rfl⟩ := hcs'
    exact ⟨none, 0, 0, [], rfl, rfl, by omega, Nat.le_refl _, CellsAt.nil_ _ _ _⟩
  · have hcs' : [Value.slice a0 len0 cap0] = [.slice (some a) len cap] := hcs
    simp only [List.cons.injEq, and_true, Value.slice.injEq] at hcs'
    obtain ⟨rfl, rfl, rfl⟩ := hcs'
    have hz : len0 ≤ zs.length := by rw [hzs]; simp; omega
    refine ⟨some a, len0, cap0, zs.take len0, rfl, by rw [List.length_take]; omega, by first | omega | (unfold maxLen at *; omega), by omega, fun h0 => ?_⟩
    rw [csI_len, List.length_take] at h0
    obtain ⟨b, off, spot⟩ := a
    have hc0 := hcell 0 (by omega)
    have hspot : spot = none := by simpa [Addr.add] using World.cell?_spot hc0
    subst hspot
    refine ⟨b, off, rfl, ?_, fun j hj => ?_⟩
    · have := World.block_lt_of_cell? _ _ hc0
      simpa [Addr.add] using this
    · rw [csI_len, List.length_take] at hj
      have hc := hcell j (by omega)
      rw [Go.WideShapes.add_plain] at hc
      rw [hc, csI_at, List.getElem_take, List.getD_eq_getElem?_getD, List.getElem?_eq_getElem (by omega)]
      rfl

end Go.Proofs.Ytgfmgmcpfefmkaa

set_option linter.unusedSimpArgs false
set_option linter.unusedVariables false
namespace Go.Proofs.Ytgfmgmcpfefmkaa
open Go.RowKit


theorem own_snocFile {w : World} {B : Nat} {v : Value} {V : List Fl} {f : Fl} (h : w.ownsRow B 86 2 v (V.length + 1) (csE encF V ++ encF f)) : OwnF w B v (V ++ [f]) := by
  unfold OwnF
  have e : csE encF (V ++ [f]) = csE encF V ++ encF f := by rw [csE_append]; simp [csE]
  rw [e, show (V ++ [f]).length = V.length + 1 from by simp]
  exact h

set_option maxHeartbeats 1000000 in
theorem wp_append_File {ops : Array Oper} {rest : List Oper} {o : Oper} {a : Act} {Q : Exit → Act → World → Prop} (hgd : o.guard = none) (s x : Operand)
    (ho : o.op = .call { callee := .builtin .append, args := #[s, x], argTypes := #[28, 28] })
    (w : World) (B : Nat) (v : Value) (V : List Fl) (f : Fl) (ty : TypeId) (hs : a.eval s = v) (hx : a.eval x = .slice (some ⟨w.heap.size, 0, none⟩) 1 1)
    (hO : OwnF w B v V) (hl : V.length ≤ 1048575) (hB : B ≤ w.heap.size)
    (h : ∀ v' w', OwnF w' B v' (V ++ [f]) → (∀ W : World, Bl W w → W.heap.size ≤ B → Bl W w') → wpList Try.prog ops Q rest (a.put o.dst v') w') :
    wpList Try.prog ops Q (o :: rest) a (w.alloc (.cells #[.string f.1, .string f.2] ty)) := by
  obtain ⟨i0, hi, hz0, hz1, hz2⟩ := info_parts infoFile
  have hO' : w.ownsRow B 86 2 v V.length (csE encF V) := hO
  refine wpList_append_own_at _ hgd s x _ ho B 86 i0 _ 2 32 Try.underlying28 hi hz0 hz1 hz2 rfl (by decide) v V.length (csE encF V) hs (World.ownsRow.alloc hO' _) ⟨w.heap.size, 0, none⟩ 1 1 (encF f) hx rfl ?_ (encF_one f) (by unfold maxLen; omega) (by omega) (by simp; omega) ?_
  · intro j u hj
    have hj' : j < 2 := (List.getElem?_eq_some_iff.1 hj).1
    rw [Go.WideShapes.add_plain, Nat.zero_add]
    have hc : (#[.string f.1, .string f.2] : Array Value)[j]? = some u := by
      rw [← hj]
      unfold encF
      simp
    rw [World.cell?_alloc_mark]
    exact hc
  · intro v' w' h1 h2 _ _
    refine h v' w' (own_snocFile h1) fun W hW hWB => ?_
    refine (hW.alloc_ _).grown_ h2 fun g hg => ?_
    have := (World.ownsRow.lt hO' g hg).1
    omega

theorem wp_copy_File {ops : Array Oper} {rest : List Oper} {o : Oper} {a : Act} {Q : Exit → Act → World → Prop} (hgd : o.guard = none) (s x : Operand)
    (ho : o.op = .call { callee := .builtin .append, args := #[s, x], argTypes := #[28, 28] })
    (w : World) (B : Nat) (v : Value) (A : Option Addr) (n c : Nat) (L : List Fl) (hs : a.eval s = v) (hx : a.eval x = .slice A n c) (hO : OwnF w B v []) (hB : B ≤ w.heap.size) (hn : n = L.length) (hm : n ≤ 1048576) (H : FilesAt w w.heap.size A L)
    (h : ∀ v' w', OwnF w' B v' L → (∀ W : World, Bl W w → W.heap.size ≤ B → Bl W w') → wpList Try.prog ops Q rest (a.put o.dst v') w') :
    wpList Try.prog ops Q (o :: rest) a w := by
  obtain ⟨i0, hi, hz0, hz1, hz2⟩ := info_parts infoFile
  have hO' : w.ownsRow B 86 2 v 0 [] := hO
  have hr : Reads w w.heap.size 2 A n (csE encF L) := reads_of_cells H (by rw [csE_length encF_len, hn]) (by omega)
  refine wpList_append_any w hgd s x _ ho B 86 i0 _ 2 32 Try.underlying28 hi hz0 hz1 hz2 rfl (by decide) v 0 [] hs hO' w.heap.size A n c (csE encF L) hx hr (csE_one encF_one L) (by unfold maxLen; omega) (by omega) hB ?_
  intro v' w' h1 h2 _
  refine h v' w' ?_ fun W hW hWB => hW.grown_ h2 fun g hg => ?_
  · unfold OwnF Owns
    rw [← hn]
    simpa using h1
  · have := (World.ownsRow.lt hO' g hg).1
    omega




end Go.Proofs.Ytgfmgmcpfefmkaa

set_option linter.unusedSimpArgs false
set_option linter.unusedVariables false
namespace Go.Proofs.Ytgfmgmcpfefmkaa
open Go.RowKit

set_option maxHeartbeats 400000 in
theorem l15Name_any (s : ByteArray) (w : World) :
    Calls Try.prog 73 #[.string s] w fun e w' => e = .returned (.bool (nameB s)) ∧ w = w' := by
  by_cases h1 : (1 : Int) ≤ (s.size : Int)
  · by_cases h2 : (s.size : Int) ≤ 100
    · go_enter Try.func73, Try.ntmps73
      go_wp2
      go_ret
      exact ⟨ret_bool (by simp [nameB]; omega), rfl⟩
    · go_enter Try.func73, Try.ntmps73
      go_wp2
      go_ret
      exact ⟨ret_bool (by simp [nameB]; omega), rfl⟩
  · go_enter Try.func73, Try.ntmps73
    go_wp2
    go_ret
    exact ⟨ret_bool (by simp [nameB]; omega), rfl⟩
set_option maxHeartbeats 400000 in
theorem nameOk_any (s : ByteArray) (w : World) :
    Calls Try.prog 76 #[.string s] w fun e w' => e = .returned (.bool (nameB s)) ∧ w = w' := by
  by_cases h1 : (1 : Int) ≤ (s.size : Int)
  · by_cases h2 : (s.size : Int) ≤ 100
    · go_enter Try.func76, Try.ntmps76
      go_wp2
      go_ret
      exact ⟨ret_bool (by simp [nameB]; omega), rfl⟩
    · go_enter Try.func76, Try.ntmps76
      go_wp2
      go_ret
      exact ⟨ret_bool (by simp [nameB]; omega), rfl⟩
  · go_enter Try.func76, Try.ntmps76
    go_wp2
    go_ret
    exact ⟨ret_bool (by simp [nameB]; omega), rfl⟩
set_option maxHeartbeats 400000 in
theorem l1InD_any (n lo hi : Int) (w : World) :
    Calls Try.prog 33 #[.int .i64 n, .int .i64 lo, .int .i64 hi] w fun e w' => e = .returned (.bool (decide (lo ≤ n) && decide (n ≤ hi))) ∧ w = w' := by
  by_cases h1 : lo ≤ n
  · by_cases h2 : n ≤ hi
    · go_enter Try.func33, Try.ntmps33
      go_wp2
      go_ret
      exact ⟨ret_bool (by simp; omega), rfl⟩
    · go_enter Try.func33, Try.ntmps33
      go_wp2
      go_ret
      exact ⟨ret_bool (by simp; omega), rfl⟩
  · go_enter Try.func33, Try.ntmps33
    go_wp2
    go_ret
    exact ⟨ret_bool (by simp; omega), rfl⟩

/-- Where the file of that name is; -1: nowhere. -/
def AtI (L : List Fl) (nm : ByteArray) (i : Int) : Prop :=
  (∃ k : Nat, i = (k : Int) ∧ ∃ hk : k < L.length, L[k].1 = nm ∧ dataL L nm = L[k].2 ∧ hasL L nm = true) ∨ (i = -1 ∧ hasL L nm = false)
set_option maxHeartbeats 1000000 in
theorem l15At_any (A : Option Addr) (n c : Nat) (L : List Fl) (hn : n = L.length) (nm : ByteArray) (w : World) (hm : n ≤ 1048576) (H1 : FilesAt w w.heap.size A L) :
    Calls Try.prog 50 #[.slice A n c, .string nm] w fun e w' => (∃ i : Int, e = .returned (.int .i64 i) ∧ AtI L nm i) ∧ Bl w w' := by
  have K1 := Lib.hid H1
  have HN := Lib.hid hn
  clear H1 hn
  go_enter Try.func50, Try.ntmps50
  go_wp2
  go_loopw [5] (fun i wr => ∃ k : Nat, k ≤ n ∧ i = .int .i64 k ∧ Hid (∀ j (hj : j < L.length), j < k → sameB L[j].1 nm = false) ∧ Bl w wr) (fun i _ => n - (intOf i).toNat)
  case atStart => exact ⟨0, by omega, rfl, Lib.hid (fun j _ h => absurd h (by omega)), Bl.refl w⟩
  case round =>
    obtain ⟨k, hk, rfl, HO, hbl⟩ := hrel
    by_cases hlt : k < n
    · have hkl : k < L.length := by have := HN.out; omega
      obtain ⟨g1, o1, rfl, hg1, hc1⟩ := K1.out.cell (by omega)
      obtain ⟨p1, p2⟩ := hc1 k hkl
      rw [← (bcell hbl).1 _ _ hg1] at p1
      clear hc1 p2
      obtain ⟨x, hx⟩ : ∃ x, x = L[k].1 := ⟨_, rfl⟩
      rw [← hx] at p1
      have HX := Lib.hid hx
      clear hx
      by_cases e : sameB x nm = true
      · have e' : (x.toList == nm.toList) = true := e
        have E := Lib.hid e
        clear e
        go_wp2
        go_ret
        refine ⟨⟨k, rfl, .inl ⟨k, rfl, hkl, ?_, ?_, ?_⟩⟩, hbl⟩
        · rw [← HX.out]; exact (sameB_iff _ _).1 E.out
        · exact data_at hkl (by rw [← HX.out]; exact E.out) fun j hj => HO.out j (by omega) hj
        · exact has_of_at hkl (by rw [← HX.out]; exact E.out)
      · have e0 : sameB x nm = false := by simpa using e
        have e' : (x.toList == nm.toList) = false := e0
        have E := Lib.hid e0
        clear e e0
        go_wp2
        go_roundw
        case rel =>
          refine ⟨k + 1, by omega, by go_num, Lib.hid fun j hj h => ?_, hbl⟩
          rcases Nat.lt_or_ge j k with h' | h'
          · exact HO.out j hj h'
          · obtain rfl : j = k := by omega
            rw [← HX.out]; exact E.out
        case measure => simp [intOf]; omega
    · go_wp2
      go_ret
      exact ⟨⟨-1, rfl, .inr ⟨rfl, has_none fun j hj => HO.out j hj (by have := HN.out; omega)⟩⟩, hbl⟩

set_option maxHeartbeats 1000000 in
theorem l15Form_any (o : Dp) (w : World) :
    Calls Try.prog 61 #[.agg #[.int .i64 o.kind, .string o.name, .string o.to, .string o.data]] w fun e w' => e = .returned (.bool (formB o)) ∧ Bl w w' := by
  obtain ⟨q, a, b, c⟩ := o
  have HF := Lib.hid (show formB ⟨q, a, b, c⟩ = (decide (1 ≤ q) && decide (q ≤ 3) && nameB a && (if q = 2 then nameB b && emptyB c else emptyB b && (decide (q = 1) || emptyB c))) from rfl)
  by_cases h1 : (decide (1 ≤ q) && decide (q ≤ 3)) = true
  · have H1 := Lib.hid h1
    by_cases h2 : nameB a = true
    · by_cases h3 : q = 2
      · subst h3
        by_cases h4 : nameB b = true
        · have HE := Lib.hid (show c.toList.isEmpty = emptyB c from rfl)
          go_enter Try.func61, Try.ntmps61
          go_wp2_with fail
          refine (l1InD_any _ _ _ _).mono ?_
          rintro e w1 ⟨rfl, rfl⟩
          rw [H1.out]
          go_wp2_with fail
          refine (l15Name_any _ _).mono ?_
          rintro e w1 ⟨rfl, rfl⟩
          rw [h2]
          go_wp2_with fail
          refine (l15Name_any _ _).mono ?_
          rintro e w1 ⟨rfl, rfl⟩
          rw [h4]
          go_wp2
          go_ret
          exact ⟨ret_bool (by rw [HF.out, h2, ← HE.out]; simp [h4]), (by repeat' (first | exact Bl.refl _ | with_reducible assumption | with_reducible refine Bl.drew_ ?_ | with_reducible refine Bl.drewN_ ?_ _ | with_reducible refine Bl.alloc_ ?_ _ | with_reducible refine Bl.trans_ ?_ (by assumption) | with_reducible refine Bl.trans_ ?_ (And.left (by assumption))))⟩
        · have h4' : nameB b = false := by simpa using h4
          go_enter Try.func61, Try.ntmps61
          go_wp2_with fail
          refine (l1InD_any _ _ _ _).mono ?_
          rintro e w1 ⟨rfl, rfl⟩
          rw [H1.out]
          go_wp2_with fail
          refine (l15Name_any _ _).mono ?_
          rintro e w1 ⟨rfl, rfl⟩
          rw [h2]
          go_wp2_with fail
          refine (l15Name_any _ _).mono ?_
          rintro e w1 ⟨rfl, rfl⟩
          rw [h4']
          go_wp2
          go_ret
          exact ⟨ret_bool (by rw [HF.out, h2]; simp [h4']), (by repeat' (first | exact Bl.refl _ | with_reducible assumption | with_reducible refine Bl.drew_ ?_ | with_reducible refine Bl.drewN_ ?_ _ | with_reducible refine Bl.alloc_ ?_ _ | with_reducible refine Bl.trans_ ?_ (by assumption) | with_reducible refine Bl.trans_ ?_ (And.left (by assumption))))⟩
      · by_cases h5 : emptyB b = true
        · have h5' : b.toList.isEmpty = true := h5
          by_cases h6 : q = 1
          · subst h6
            go_enter Try.func61, Try.ntmps61
            go_wp2_with fail
            refine (l1InD_any _ _ _ _).mono ?_
            rintro e w1 ⟨rfl, rfl⟩
            rw [H1.out]
            go_wp2_with fail
            refine (l15Name_any _ _).mono ?_
            rintro e w1 ⟨rfl, rfl⟩
            rw [h2]
            go_wp2
            go_ret
            exact ⟨ret_bool (by rw [HF.out, h2]; simp [h5]), (by repeat' (first | exact Bl.refl _ | with_reducible assumption | with_reducible refine Bl.drew_ ?_ | with_reducible refine Bl.drewN_ ?_ _ | with_reducible refine Bl.alloc_ ?_ _ | with_reducible refine Bl.trans_ ?_ (by assumption) | with_reducible refine Bl.trans_ ?_ (And.left (by assumption))))⟩
          · have HE := Lib.hid (show c.toList.isEmpty = emptyB c from rfl)
            go_enter Try.func61, Try.ntmps61
            go_wp2_with fail
            refine (l1InD_any _ _ _ _).mono ?_
            rintro e w1 ⟨rfl, rfl⟩
            rw [H1.out]
            go_wp2_with fail
            refine (l15Name_any _ _).mono ?_
            rintro e w1 ⟨rfl, rfl⟩
            rw [h2]
            go_wp2
            go_ret
            exact ⟨ret_bool (by rw [HF.out, H1.out, h2, if_neg h3, h5, decide_eq_false h6, ← HE.out, show (q == 1) = false from by simpa using h6]; rfl), (by repeat' (first | exact Bl.refl _ | with_reducible assumption | with_reducible refine Bl.drew_ ?_ | with_reducible refine Bl.drewN_ ?_ _ | with_reducible refine Bl.alloc_ ?_ _ | with_reducible refine Bl.trans_ ?_ (by assumption) | with_reducible refine Bl.trans_ ?_ (And.left (by assumption))))⟩
        · have h5a : emptyB b = false := by simpa using h5
          have h5' : b.toList.isEmpty = false := h5a
          clear h5
          go_enter Try.func61, Try.ntmps61
          go_wp2_with fail
          refine (l1InD_any _ _ _ _).mono ?_
          rintro e w1 ⟨rfl, rfl⟩
          rw [H1.out]
          go_wp2_with fail
          refine (l15Name_any _ _).mono ?_
          rintro e w1 ⟨rfl, rfl⟩
          rw [h2]
          go_wp2
          go_ret
          exact ⟨ret_bool (by rw [HF.out, H1.out, h2, if_neg h3, h5a]; rfl), (by repeat' (first | exact Bl.refl _ | with_reducible assumption | with_reducible refine Bl.drew_ ?_ | with_reducible refine Bl.drewN_ ?_ _ | with_reducible refine Bl.alloc_ ?_ _ | with_reducible refine Bl.trans_ ?_ (by assumption) | with_reducible refine Bl.trans_ ?_ (And.left (by assumption))))⟩
    · have h2' : nameB a = false := by simpa using h2
      go_enter Try.func61, Try.ntmps61
      go_wp2_with fail
      refine (l1InD_any _ _ _ _).mono ?_
      rintro e w1 ⟨rfl, rfl⟩
      rw [H1.out]
      go_wp2_with fail
      refine (l15Name_any _ _).mono ?_
      rintro e w1 ⟨rfl, rfl⟩
      rw [h2']
      go_wp2
      go_ret
      exact ⟨ret_bool (by rw [HF.out, H1.out, h2']; rfl), (by repeat' (first | exact Bl.refl _ | with_reducible assumption | with_reducible refine Bl.drew_ ?_ | with_reducible refine Bl.drewN_ ?_ _ | with_reducible refine Bl.alloc_ ?_ _ | with_reducible refine Bl.trans_ ?_ (by assumption) | with_reducible refine Bl.trans_ ?_ (And.left (by assumption))))⟩
  · have h1' : (decide (1 ≤ q) && decide (q ≤ 3)) = false := by simpa using h1
    have H1 := Lib.hid h1'
    clear h1 h1'
    go_enter Try.func61, Try.ntmps61
    go_wp2_with fail
    refine (l1InD_any _ _ _ _).mono ?_
    rintro e w1 ⟨rfl, rfl⟩
    rw [H1.out]
    go_wp2
    go_ret
    exact ⟨ret_bool (by rw [HF.out, H1.out]; rfl), (by repeat' (first | exact Bl.refl _ | with_reducible assumption | with_reducible refine Bl.drew_ ?_ | with_reducible refine Bl.drewN_ ?_ _ | with_reducible refine Bl.alloc_ ?_ _ | with_reducible refine Bl.trans_ ?_ (by assumption) | with_reducible refine Bl.trans_ ?_ (And.left (by assumption))))⟩

end Go.Proofs.Ytgfmgmcpfefmkaa

set_option linter.unusedSimpArgs false
set_option linter.unusedVariables false
namespace Go.Proofs.Ytgfmgmcpfefmkaa
open Go.RowKit

theorem cut_drop (nm : ByteArray) (L : List Fl) (k : Nat) (hk : k < L.length) : cutL (L.drop k) nm = (if sameB L[k].1 nm then [] else [L[k]]) ++ cutL (L.drop (k + 1)) nm := by
  rw [List.drop_eq_getElem_cons hk]
  unfold cutL
  rw [List.filter_cons]
  cases h : sameB L[k].1 nm <;> simp
theorem putK_drop (nm d : ByteArray) (L : List Fl) (k : Nat) (hk : k < L.length) (b : Bool) :
    putK nm d (L.drop k) b = (if !b && !lessB L[k].1 nm then [(nm, d)] else []) ++ (if sameB L[k].1 nm then [] else [L[k]]) ++ putK nm d (L.drop (k + 1)) (b || !lessB L[k].1 nm) := by
  rw [List.drop_eq_getElem_cons hk]
  rfl
/-- A list of one's own, and nothing else has turned. -/
def FilesNew (L : List Fl) (w : World) (e : Ending) (w' : World) : Prop := ∃ v, e = .returned v ∧ OwnF w' w.heap.size v L ∧ Bl w w'
theorem own_shapeF {w : World} {B : Nat} {v : Value} {L : List Fl} (h : OwnF w B v L) : ∃ A c, v = .slice A L.length c ∧ L.length ≤ c ∧ FilesAt w w.heap.size A L ∧ (∀ g, blockOf A = some g → B ≤ g ∧ g < w.heap.size) := by
  have h' := h
  obtain ⟨A, c, rfl, hc, h1, h2, h3⟩ := Owns.shape h
  refine ⟨A, c, rfl, ?_, h1, Owns.lt_ h⟩
  rcases h'.2 with ⟨e, h0⟩ | ⟨g, cap, cur, e, _, _, hnc, _⟩
  · omega
  · injection e with e1 e2 e3
    omega

set_option maxHeartbeats 2000000 in
theorem l15Cut_any (A : Option Addr) (n c : Nat) (L : List Fl) (hn : n = L.length) (nm : ByteArray) (w : World) (hm : n ≤ 1048000) (H1 : FilesAt w w.heap.size A L) :
    Calls Try.prog 72 #[.slice A n c, .string nm] w (FilesNew (cutL L nm) w) := by
  have K1 := Lib.hid H1
  have HN := Lib.hid hn
  clear H1 hn
  go_enter Try.func72, Try.ntmps72
  go_wp2
  go_loopw [5, 6] (fun v i wr => ∃ (k : Nat) (V : List Fl), k ≤ n ∧ i = .int .i64 k ∧ Hid (V ++ cutL (L.drop k) nm = cutL L nm) ∧ V.length ≤ k ∧ OwnF wr w.heap.size v V ∧ Bl w wr) (fun _ i _ => n - (intOf i).toNat)
  case atStart => exact ⟨0, [], by omega, rfl, Lib.hid rfl, by simp, World.ownsRow_made (base := w.heap.size) (e := 86) (size := 2) w #[] 0 (Nat.le_refl _) (by unfold maxLen; omega) rfl, (by repeat' (first | exact Bl.refl _ | with_reducible assumption | with_reducible refine Bl.drew_ ?_ | with_reducible refine Bl.drewN_ ?_ _ | with_reducible refine Bl.alloc_ ?_ _ | with_reducible refine Bl.trans_ ?_ (by assumption) | with_reducible refine Bl.trans_ ?_ (And.left (by assumption))))⟩
  case round =>
    obtain ⟨k, V, hk, rfl, HV, hVl, hown, hbl⟩ := hrel
    have O := Lib.hid hown
    have BW := Lib.hid hbl
    by_cases hlt : k < n
    · have hkl : k < L.length := by have := HN.out; omega
      obtain ⟨g1, o1, rfl, hg1, hc1⟩ := K1.out.cell (by omega)
      obtain ⟨p1, p2⟩ := hc1 k hkl
      rw [← (bcell hbl).1 _ _ hg1] at p1 p2
      have HD := Lib.hid (cut_drop nm L k hkl)
      clear hc1 hown hbl
      obtain ⟨f, hf⟩ : ∃ f, f = L[k] := ⟨_, rfl⟩
      rw [← hf] at p1 p2 HD
      clear hf
      by_cases e : sameB f.1 nm = true
      · have e' : (f.1.toList == nm.toList) = true := e
        have E := Lib.hid e
        clear e
        go_wp2
        go_roundw
        case rel =>
          refine ⟨k + 1, V, by omega, by go_num, Lib.hid ?_, by omega, O.out, BW.out⟩
          have := HV.out
          rw [HD.out, if_pos E.out] at this
          simpa using this
        case measure => simp [intOf]; omega
      · have e0 : sameB f.1 nm = false := by simpa using e
        have e' : (f.1.toList == nm.toList) = false := e0
        have E := Lib.hid e0
        have hs := BW.out.size
        clear e e0
        go_wp2_with (at_builtin; refine wp_append_File rfl (.tmp 21) (.tmp 26) rfl wr w.heap.size _ V f _ rfl rfl O.out (by omega) (by omega) ?_)
        intro v8 w8 hown8 hg8
        have O8 := Lib.hid hown8
        have B8 := Lib.hid (hg8 w BW.out (Nat.le_refl _))
        clear hown8 hg8
        go_wp2
        go_roundw
        case rel =>
          refine ⟨k + 1, V ++ [f], by omega, by go_num, Lib.hid ?_, by simp; omega, O8.out, B8.out⟩
          have := HV.out
          rw [HD.out, if_neg (by rw [E.out]; simp)] at this
          simpa using this
        case measure => simp [intOf]; omega
    · go_wp2
      go_ret
      have e : cutL (L.drop k) nm = [] := by rw [List.drop_of_length_le (by have := HN.out; omega)]; rfl
      have := HV.out
      rw [e, List.append_nil] at this
      exact ⟨_, rfl, by rw [← this]; exact hown, hbl⟩

set_option maxHeartbeats 4000000 in
set_option maxRecDepth 100000 in
theorem l15Put_any (A : Option Addr) (n c : Nat) (L : List Fl) (hn : n = L.length) (nm d : ByteArray) (w : World) (hm : n ≤ 500000) (hs : SortedF L) (H1 : FilesAt w w.heap.size A L) :
    Calls Try.prog 71 #[.slice A n c, .string nm, .string d] w (FilesNew (putL L nm d) w) := by
  have K1 := Lib.hid H1
  have HN := Lib.hid hn
  have HE := Lib.hid (putK_eq nm d hs)
  clear H1 hn hs
  go_enter Try.func71, Try.ntmps71
  go_wp2
  go_loopw [7, 8, 9] (fun v b i wr => ∃ (k : Nat) (b' : Bool) (V : List Fl), k ≤ n ∧ i = .int .i64 k ∧ b = .bool b' ∧ Hid (V ++ putK nm d (L.drop k) b' = putK nm d L false) ∧ V.length ≤ 2 * k ∧ OwnF wr w.heap.size v V ∧ Bl w wr) (fun _ _ i _ => n - (intOf i).toNat)
  case atStart => exact ⟨0, false, [], by omega, rfl, rfl, Lib.hid rfl, by simp, World.ownsRow_made (base := w.heap.size) (e := 86) (size := 2) w #[] 0 (Nat.le_refl _) (by unfold maxLen; omega) rfl, (by repeat' (first | exact Bl.refl _ | with_reducible assumption | with_reducible refine Bl.drew_ ?_ | with_reducible refine Bl.drewN_ ?_ _ | with_reducible refine Bl.alloc_ ?_ _ | with_reducible refine Bl.trans_ ?_ (by assumption) | with_reducible refine Bl.trans_ ?_ (And.left (by assumption))))⟩
  case round =>
    obtain ⟨k, b, V, hk, rfl, rfl, HV, hVl, hown, hbl⟩ := hrel
    have O := Lib.hid hown
    have BW := Lib.hid hbl
    by_cases hlt : k < n
    · have hkl : k < L.length := by have := HN.out; omega
      have hVl' := hVl
      obtain ⟨g1, o1, rfl, hg1, hc1⟩ := K1.out.cell (by omega)
      obtain ⟨q1, q2⟩ := hc1 k hkl
      have p1 := q1
      have p2 := q2
      rw [← (bcell hbl).1 _ _ hg1] at p1 p2
      have HD := Lib.hid (putK_drop nm d L k hkl b)
      clear hc1 hown hbl
      obtain ⟨f, hf⟩ : ∃ f, f = L[k] := ⟨_, rfl⟩
      rw [← hf] at p1 p2 q1 q2 HD
      clear hf
      cases b with
      | false =>
        by_cases el : lessB f.1 nm = true
        · have el' : Op.bytesLess f.1.toList nm.toList = true := el
          have e0 : sameB f.1 nm = false := lessB_ne el
          have e' : (f.1.toList == nm.toList) = false := e0
          have E := Lib.hid e0
          have EL := Lib.hid el
          clear e0 el
          go_wp2_with (at_builtin; refine wp_append_File rfl (.tmp 41) (.tmp 46) rfl wr w.heap.size _ V f _ rfl rfl O.out (by first | omega | (simp; omega)) (by have := BW.out.size; omega) ?_)
          intro v8 w8 hown8 hg8
          have O8 := Lib.hid hown8
          have B8 := Lib.hid (hg8 w BW.out (Nat.le_refl _))
          clear hown8 hg8
          go_wp2
          go_roundw
          case rel =>
            refine ⟨k + 1, false, V ++ [f], by omega, by go_num, rfl, Lib.hid ?_, by first | omega | (simp; omega), O8.out, B8.out⟩
            have := HV.out
            rw [HD.out] at this
            simp only [EL.out, E.out] at this
            simpa using this
          case measure => simp [intOf]; omega
        · have el0 : lessB f.1 nm = false := by simpa using el
          have el' : Op.bytesLess f.1.toList nm.toList = false := el0
          have EL := Lib.hid el0
          clear el el0
          by_cases e : sameB f.1 nm = true
          · have e' : (f.1.toList == nm.toList) = true := e
            have E := Lib.hid e
            clear e
            go_wp2_with (at_builtin; refine wp_append_File rfl (.tmp 28) (.tmp 32) rfl wr w.heap.size _ V (nm, d) _ rfl rfl O.out (by first | omega | (simp; omega)) (by have := BW.out.size; omega) ?_)
            intro v8 w8 hown8 hg8
            have O8 := Lib.hid hown8
            have B8 := Lib.hid (hg8 w BW.out (Nat.le_refl _))
            clear hown8 hg8
            have p1 := ((bcell B8.out).1 _ _ hg1).trans q1
            have p2 := ((bcell B8.out).1 _ _ hg1).trans q2
            go_wp2
            go_roundw
            case rel =>
              refine ⟨k + 1, true, V ++ [(nm, d)], by omega, by go_num, rfl, Lib.hid ?_, by first | omega | (simp; omega), O8.out, B8.out⟩
              have := HV.out
              rw [HD.out] at this
              simp only [EL.out, E.out] at this
              simpa using this
            case measure => simp [intOf]; omega
          · have e0 : sameB f.1 nm = false := by simpa using e
            have e' : (f.1.toList == nm.toList) = false := e0
            have E := Lib.hid e0
            clear e e0
            go_wp2_with (at_builtin; refine wp_append_File rfl (.tmp 28) (.tmp 32) rfl wr w.heap.size _ V (nm, d) _ rfl rfl O.out (by first | omega | (simp; omega)) (by have := BW.out.size; omega) ?_)
            intro v8 w8 hown8 hg8
            have O8 := Lib.hid hown8
            have B8 := Lib.hid (hg8 w BW.out (Nat.le_refl _))
            clear hown8 hg8
            have p1 := ((bcell B8.out).1 _ _ hg1).trans q1
            have p2 := ((bcell B8.out).1 _ _ hg1).trans q2
            go_wp2_with (at_builtin; refine wp_append_File rfl (.tmp 41) (.tmp 46) rfl w8 w.heap.size _ (V ++ [(nm, d)]) f _ rfl rfl O8.out (by first | omega | (simp; omega)) (by have := B8.out.size; omega) ?_)
            intro v9 w9 hown9 hg9
            have O9 := Lib.hid hown9
            have B9 := Lib.hid (hg9 w B8.out (Nat.le_refl _))
            clear hown9 hg9
            go_wp2
            go_roundw
            case rel =>
              refine ⟨k + 1, true, V ++ [(nm, d), f], by omega, by go_num, rfl, Lib.hid ?_, by first | omega | (simp; omega), O9.out, B9.out⟩
              have := HV.out
              rw [HD.out] at this
              simp only [EL.out, E.out] at this
              simpa using this
            case measure => simp [intOf]; omega
      | true =>
        have EL := Lib.hid (show ∀ b, (true || b) = true from fun b => rfl)
        by_cases e : sameB f.1 nm = true
        · have e' : (f.1.toList == nm.toList) = true := e
          have E := Lib.hid e
          clear e
          go_wp2
          go_roundw
          case rel =>
            refine ⟨k + 1, true, V, by omega, by go_num, rfl, Lib.hid ?_, by first | omega | (simp; omega), O.out, BW.out⟩
            have := HV.out
            rw [HD.out] at this
            simp only [EL.out, E.out] at this
            simpa using this
          case measure => simp [intOf]; omega
        · have e0 : sameB f.1 nm = false := by simpa using e
          have e' : (f.1.toList == nm.toList) = false := e0
          have E := Lib.hid e0
          clear e e0
          go_wp2_with (at_builtin; refine wp_append_File rfl (.tmp 41) (.tmp 46) rfl wr w.heap.size _ V f _ rfl rfl O.out (by first | omega | (simp; omega)) (by have := BW.out.size; omega) ?_)
          intro v8 w8 hown8 hg8
          have O8 := Lib.hid hown8
          have B8 := Lib.hid (hg8 w BW.out (Nat.le_refl _))
          clear hown8 hg8
          go_wp2
          go_roundw
          case rel =>
            refine ⟨k + 1, true, V ++ [f], by omega, by go_num, rfl, Lib.hid ?_, by first | omega | (simp; omega), O8.out, B8.out⟩
            have := HV.out
            rw [HD.out] at this
            simp only [EL.out, E.out] at this
            simpa using this
          case measure => simp [intOf]; omega
    · have ek : putK nm d (L.drop k) b = if b then [] else [(nm, d)] := by rw [List.drop_of_length_le (by have := HN.out; omega)]; rfl
      have HK := Lib.hid ek
      clear ek hown hbl
      cases b with
      | false =>
        go_wp2_with (at_builtin; refine wp_append_File rfl (.tmp 50) (.tmp 54) rfl wr w.heap.size _ V (nm, d) _ rfl rfl O.out (by first | omega | (simp; omega)) (by have := BW.out.size; omega) ?_)
        intro v8 w8 hown8 hg8
        have O8 := Lib.hid hown8
        have B8 := Lib.hid (hg8 w BW.out (Nat.le_refl _))
        clear hown8 hg8
        go_wp2
        go_ret
        have := HV.out
        rw [HK.out, HE.out] at this
        exact ⟨_, rfl, by rw [← this]; exact O8.out, B8.out⟩
      | true =>
        go_wp2
        go_ret
        have := HV.out
        rw [HK.out, HE.out] at this
        simp only [if_true, List.append_nil] at this
        exact ⟨_, rfl, by rw [← this]; exact O.out, BW.out⟩

end Go.Proofs.Ytgfmgmcpfefmkaa

set_option linter.unusedSimpArgs false
set_option linter.unusedVariables false
namespace Go.Proofs.Ytgfmgmcpfefmkaa
open Go.RowKit

theorem eqIn_file (d : Nat) (a b c e : ByteArray) (w : World) : (Op.equalIn (d + 2) 86 (.agg #[.string a, .string b]) (.agg #[.string c, .string e])).run Try.prog w = .ok (sameB a c && sameB b e) w := by
  have ht : Try.prog.underlying 86 = some (.struct (Try.prog.fieldsOf 86)) := by kernel_rfl
  have hs : ∀ n x y (w : World), (Op.equalIn (n + 1) 9 (.string x) (.string y)).run Try.prog w = .ok (x.toList == y.toList) w := fun n x y w => run_equalIn_string w n _ x y Try.underlying9
  rw [run_equalIn_agg w (d + 1) _ _ _ ht (by kernel_rfl)]
  have e2 := Try.underlying86
  rw [ht] at e2
  simp only [Option.some.injEq, TypeDesc.struct.injEq] at e2
  rw [e2]
  have hc : ∀ t, t = 9 → Try.prog.cellsOf t = 1 := fun t h => by subst h; kernel_rfl
  cases h1 : (a.toList == c.toList) <;> cases h2 : (b.toList == e.toList) <;> simp [Op.eqFields, part, hs, sameB, h1, h2, go_sem]

end Go.Proofs.Ytgfmgmcpfefmkaa
