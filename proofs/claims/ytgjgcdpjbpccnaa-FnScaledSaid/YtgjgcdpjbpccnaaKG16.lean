/-
  What is proved here: impl.nextNode tells the least node by way of which it is no farther; What is stated here: of which functions and types of the program the library's sort of structs is made. No conditions; slices.SortFunc over arcs of which no two have the same ends puts them in order; impl.turned and impl.Reversed turn the arcs of a right graph and sort them; impl.PathOf tells the first of the shortest paths; the model's PathOf tells the first of the shortest paths. No conditions beyond those that each theorem states.
-/
import Derived.Test.YtgjgcdpjbpccnaaKG15
import Derived.Test.YtgjgcdpjbpccnaaKG04
import Derived.Test.YtgjgcdpjbpccnaaKG10
import Derived.Shelf.SlLaysF0
import Derived.Shelf.SlGeneric
import Derived.Test.YtgjgcdpjbpccnaaProg
import Derived.Shelf.SlSortCmp.NoneTotal
import Derived.Test.YtgjgcdpjbpccnaaKG14
import Derived.Test.YtgjgcdpjbpccnaaKG11
set_option linter.unusedSimpArgs false
set_option linter.unusedVariables false
namespace Go.Proofs.Ytgjgcdpjbpccnaa
open Go.RowKit Go.Shelf

set_option maxHeartbeats 1000000 in
theorem next1_any (lb vb : Nat) (E : List Int) (N v x y z : Int) (W : World) (hl : NumsAt W lb E) (hv : W.cell? ⟨vb, 0, none⟩ = some (.int .i64 v)) (hN : N ≤ 24) (y0 : 0 ≤ y) (y1 : y < N) (z0 : 1 ≤ z) (z1 : z ≤ 1000) (v0 : 0 ≤ v) (v1 : v < N)
    (hE : ∀ k (h : k < E.length), (k : Int) < N → -1 ≤ E[k] ∧ E[k] ≤ 23000) :
    Calls Try.prog 131 #[.agg #[.int .i64 x, .int .i64 y, .int .i64 z], .pointer (some ⟨lb, 0, none⟩), .pointer (some ⟨vb, 0, none⟩)] W fun e w' => e = .returned (.bool (nextB E v (x, y, z))) ∧ Bl W w' := by
  obtain ⟨yn, rfl⟩ : ∃ yn : Nat, y = yn := ⟨y.toNat, by omega⟩
  obtain ⟨vn, rfl⟩ : ∃ vn : Nat, v = vn := ⟨v.toNat, by omega⟩
  have hlen := hl.len
  have hyl : yn < E.length := by omega
  have hvl : vn < E.length := by omega
  have q0 := hl.cell yn hyl
  have q1 := hl.cell vn hvl
  have hby := hE yn hyl y1
  have hbv := hE vn hvl v1
  have HB := Lib.hid (show nextB E (vn : Int) (x, (yn : Int), z) = decide (0 ≤ E[yn] ∧ z + E[yn] = E[vn]) from by
    unfold nextB
    rw [dAt_at hyl, dAt_at hvl])
  generalize E[yn] = d at *
  generalize E[vn] = e at *
  have hlb := hl.lt
  have hvb := World.block_lt_of_cell? _ _ hv
  simp only at hvb
  have u1 : (0 : Int) ≤ (yn : Int) := by omega
  have u2 : (yn : Int) < 24 := by omega
  have u3 : (0 : Int) ≤ (vn : Int) := by omega
  have u4 : (vn : Int) < 24 := by omega
  clear hl hE hlen hyl hvl
  by_cases h1 : 0 ≤ d
  · have b1 : decide (0 ≤ d) = true := by simpa using h1
    have a1 : IntKind.i64.wrap (z + d) = z + d := IntWalk.i64_in _ (by omega)
    by_cases h2 : z + d = e
    · have b2 : (z + d == e) = true := by simpa using h2
      have HC := Lib.hid (show decide (0 ≤ d ∧ z + d = e) = true from by simp only [decide_eq_true_eq]; exact ⟨h1, h2⟩)
      clear h2
      go_enter Try.func131, Try.ntmps131
      go_wp2
      go_quiet (fail)
      go_wp2
      go_ret
      exact ⟨ret_bool (by rw [HB.out, HC.out]), (by repeat' (first | exact Bl.refl _ | with_reducible assumption | with_reducible refine Bl.drew_ ?_ | with_reducible refine Bl.drewN_ ?_ _ | with_reducible refine Bl.alloc_ ?_ _ | with_reducible refine Bl.trans_ ?_ (by assumption) | with_reducible refine Bl.trans_ ?_ (And.left (by assumption))))⟩
    · have b2 : (z + d == e) = false := by simpa using h2
      have HC := Lib.hid (show decide (0 ≤ d ∧ z + d = e) = false from by simp only [decide_eq_false_iff_not]; exact fun h => h2 h.2)
      clear h2
      go_enter Try.func131, Try.ntmps131
      go_wp2
      go_quiet (fail)
      go_wp2
      go_ret
      exact ⟨ret_bool (by rw [HB.out, HC.out]), (by repeat' (first | exact Bl.refl _ | with_reducible assumption | with_reducible refine Bl.drew_ ?_ | with_reducible refine Bl.drewN_ ?_ _ | with_reducible refine Bl.alloc_ ?_ _ | with_reducible refine Bl.trans_ ?_ (by assumption) | with_reducible refine Bl.trans_ ?_ (And.left (by assumption))))⟩
  · have b1 : decide (0 ≤ d) = false := by simpa using h1
    have HC := Lib.hid (show decide (0 ≤ d ∧ z + d = e) = false from by simp only [decide_eq_false_iff_not]; exact fun h => h1 h.1)
    go_enter Try.func131, Try.ntmps131
    go_wp2
    go_quiet (fail)
    go_wp2
    go_ret
    exact ⟨ret_bool (by rw [HB.out, HC.out]), (by repeat' (first | exact Bl.refl _ | with_reducible assumption | with_reducible refine Bl.drew_ ?_ | with_reducible refine Bl.drewN_ ?_ _ | with_reducible refine Bl.alloc_ ?_ _ | with_reducible refine Bl.trans_ ?_ (by assumption) | with_reducible refine Bl.trans_ ?_ (And.left (by assumption))))⟩

def encN {N : Int} (y : ArcN N) : List Value := [.int .i64 y.a.1, .int .i64 y.a.2.1, .int .i64 y.a.2.2]
theorem box24 {w wx : World} {E : List Int} {t : TypeId} (hE : E.length = 24) (h : Bl (w.alloc (.cells (E.map (Value.int .i64)).toArray t)) wx) : NumsAt wx w.heap.size E := by
  refine NumsAt.bl (w := w.alloc (.cells (E.map (Value.int .i64)).toArray t)) ⟨by simp, hE, fun i hi => ?_, fun i hi => ?_⟩ h
  · simp [go_sem, hi]
  · simp [go_sem]

set_option maxRecDepth 100000 in
set_option maxHeartbeats 2000000 in
theorem nextNode_any (N v : Int) (A : Option Addr) (n c : Nat) (L : List Arc3) (hn : n = L.length) (hc : n ≤ c) (ho : okB N L = true) (E : List Int) (hE : E.length = 24)
    (hEb : ∀ k (h : k < E.length), (k : Int) < N → -1 ≤ E[k] ∧ E[k] ≤ 23000) (v0 : 0 ≤ v) (v1 : v < N) (a : Arc3) (hnext : nextL L (E.take N.toNat) v = some a) (w : World) (hm : n ≤ 1048576) (H1 : ArcsAt w w.heap.size A L) :
    Calls Try.prog 76 #[.agg #[.int .i64 N, .slice A n c], .agg (E.map (Value.int .i64)).toArray, .int .i64 v] w fun e w' => e = .returned (.int .i64 a.2.1) ∧ Bl w w' := by
  have K1 := Lib.hid H1
  have HN := Lib.hid hn
  have HO := Lib.hid ho
  have EL := Lib.hid hE
  have EB := Lib.hid hEb
  have NX := Lib.hid hnext
  have hN24 := (okB_elim ho).2.1
  have hN1 := (okB_elim ho).1
  clear H1 hn ho hE hEb hnext
  go_enter Try.func76, Try.ntmps76
  go_wp2_with fail
  refine (arcsFrom_any N v A n c L HN.out _ (by omega) hc (sorted_of_ok HO.out) (fun a ha => (arcsIn_of_ok HO.out a ha).2.2.1) (by omega) (by omega) (K1.out.bl (by repeat' (first | exact Bl.refl _ | with_reducible assumption | with_reducible refine Bl.drew_ ?_ | with_reducible refine Bl.drewN_ ?_ _ | with_reducible refine Bl.alloc_ ?_ _ | with_reducible refine Bl.trans_ ?_ (by assumption) | with_reducible refine Bl.trans_ ?_ (And.left (by assumption)))))).mono ?_
  rintro e w1 ⟨A', c1, rfl, hc1, hA1, hblk, hb1⟩
  have hR := NX.out
  unfold nextL at hR
  obtain ⟨k, hk, ha, hq, hno⟩ := first_at hR
  have hin : ∀ b ∈ fromL v L, 0 ≤ b.2.1 ∧ b.2.1 < N ∧ 1 ≤ b.2.2 ∧ b.2.2 ≤ 1000 := fun b hb => by
    have h := arcsIn_of_ok HO.out b (by unfold fromL at hb; exact (List.mem_filter.1 hb).1)
    exact ⟨h.2.2.1, h.2.2.2.1, h.2.2.2.2.1, h.2.2.2.2.2⟩
  have hnt : N.toNat ≤ E.length := by rw [EL.out]; omega
  have hsame : ∀ b ∈ fromL v L, nextB (E.take N.toNat) v b = nextB E v b := fun b hb => nextB_take hnt ⟨v0, by omega⟩ ⟨(hin b hb).1, by have := (hin b hb).2.1; omega⟩
  rw [hsame _ (List.getElem_mem hk)] at hq
  have hno' : ∀ j (hj : j < k), nextB E v ((fromL v L)[j]'(by omega)) = false := fun j hj => by rw [← hsame _ (List.getElem_mem (by omega))]; exact hno j hj
  haveI : Inhabited (ArcN N) := ⟨⟨(0, 0, 1), by show (0 : Int) ≤ 0; omega, by show (0 : Int) < N; omega, by show (1 : Int) ≤ 1; omega, by show (1 : Int) ≤ 1000; omega⟩⟩
  have hidx := idx_first hin (nextB E v) hk hq hno'
  obtain ⟨g, off, rfl, hg, hcell⟩ := hA1 (by omega)
  have hB := Lib.hid (show Bl w w1 from (((Bl.alloc_ (Bl.refl w) _).alloc_ _).alloc_ _).trans_ hb1)
  have hgl : g < w1.heap.size := Nat.lt_of_lt_of_le hg hb1.size
  have NA := Lib.hid (show ∀ W, Below w1.heap.size w1 W → NumsAt W (w.heap.size + 1) E ∧ W.cell? ⟨w.heap.size + 2, 0, none⟩ = some (.int .i64 v) from fun W hW => by
    have hbW : Bl w1 W := hW
    have h1 := box24 (w := w.alloc (.cells #[.int .i64 N, .slice A n c] 26)) (t := 102) EL.out ((Bl.alloc_ (Bl.refl _) (.cells #[.int .i64 v] 2)).trans_ (hb1.trans_ hbW))
    rw [World.size_alloc] at h1
    have h2 := box1 (w := (w.alloc (.cells #[.int .i64 N, .slice A n c] 26)).alloc (.cells (E.map (Value.int .i64)).toArray 102)) (hb1.trans_ hbW)
    rw [World.size_alloc, World.size_alloc] at h2
    exact ⟨h1, h2⟩)
  have hcon := AnyQ.slices_IndexFunc (P := Try.prog) (ρ := idxArcs_ren) { idxArcs with } 3 (fun w => by kernel_rfl) (fun w => by kernel_rfl) (encN (N := N)) (fun _ => rfl)
    (fun y => nextB E v y.a) 131 #[.pointer (some ⟨w.heap.size + 1, 0, none⟩), .pointer (some ⟨w.heap.size + 2, 0, none⟩)] (enters_of Try.func131 (by kernel_rfl) rfl) g off (fromL v L).length c1 (arcsN (fromL v L) hin) w1
    (fun W x hW => by
      obtain ⟨h1, h2⟩ := NA.out W hW
      obtain ⟨⟨x1, x2, x3⟩, hx1, hx2, hx3, hx4⟩ := x
      refine (next1_any (w.heap.size + 1) (w.heap.size + 2) E N v x1 x2 x3 W h1 h2 hN24 hx1 hx2 hx3 hx4 v0 v1 EB.out).mono ?_
      rintro e w' ⟨rfl, hb'⟩
      exact ⟨rfl, (show Bl w1 w' from (show Bl w1 W from hW).trans_ hb')⟩)
    (by rw [arcsN_len]; exact Nat.le_refl _) (by have := fromL_len' v L; have := HN.out; omega) hgl
    (fun j hj i u hu => by
      rw [arcsN_len] at hj
      obtain ⟨p1, p2, p3⟩ := hcell j hj
      have e := arcsN_at hin hj
      unfold encN at hu
      rw [e] at hu
      match i, hu with
      | 0, hu => simp at hu; rw [← hu]; exact p1
      | 1, hu => simp at hu; rw [← hu]; exact p2
      | 2, hu => simp at hu; rw [← hu]; exact p3
      | (i + 3), hu => simp at hu)
  change Calls Try.prog 130 _ _ _ at hcon
  rw [hidx] at hcon
  obtain ⟨p1, p2, p3⟩ := hcell k hk
  have HKL := Lib.hid hk
  obtain ⟨R, hRl⟩ : ∃ R, R = (fromL v L).length := ⟨_, rfl⟩
  rw [← hRl] at hcon hk ⊢
  rw [ha] at p2
  have HA := Lib.hid ha
  have hkc : (k : Int) < (R : Int) := by omega
  have hk0 : (0 : Int) ≤ (k : Int) := by omega
  have CON := Lib.hid hcon
  clear hcon hidx hcell hno hno' hsame hq hR hRl p1 p3 hin ha
  generalize a.2.1 = y at *
  go_wp2_with fail
  refine CON.out.mono ?_
  rintro e w2 ⟨rfl, hb2⟩
  have hb2 : Bl w1 w2 := hb2
  rw [← (bcell hb2).1 _ _ hgl] at p2
  go_wp2
  go_ret
  exact ⟨by first | rfl | kernel_rfl | simp [go_sem] | exact ret_val rfl, hB.out.trans_ hb2⟩

end Go.Proofs.Ytgjgcdpjbpccnaa

namespace Go.Proofs.Ytgjgcdpjbpccnaa
open Go.Shelf

def sortArcs_ren : Go.Shelf.Ren := ⟨fun | 6 => 142 | 15 => 169 | 14 => 168 | 28 => 182 | 29 => 183 | 20 => 174 | 21 => 175 | 22 => 176 | 23 => 177 | 24 => 178 | 25 => 179 | 26 => 180 | 27 => 181 | 46 => 186 | 47 => 187 | 48 => 188 | 49 => 189 | 50 => 190 | 57 => 191 | n => n, fun | 22 => 24 | 24 => 33 | 25 => 161 | 3 => 3 | 39 => 155 | 0 => 0 | 53 => 177 | 55 => 175 | 4 => 4 | 46 => 198 | 45 => 197 | 50 => 173 | 5 => 5 | 9 => 9 | 66 => 206 | 70 => 209 | 76 => 211 | 77 => 212 | n => n, fun | n => n⟩
theorem sortArcs : Go.Proofs.SlLaysF0.n6 Try.prog sortArcs_ren := {
  mixed := by kernel_rfl
  f6 := ⟨Try.f142.name, by decide, Try.func142.trans (congrArg some (by kernel_rfl))⟩
  f14 := ⟨Try.f168.name, by decide, Try.func168.trans (congrArg some (by kernel_rfl))⟩
  f15 := Try.func169.trans (congrArg some (by kernel_rfl))
  f20 := ⟨Try.f174.name, by decide, Try.func174.trans (congrArg some (by kernel_rfl))⟩
  f21 := ⟨Try.f175.name, by decide, Try.func175.trans (congrArg some (by kernel_rfl))⟩
  f22 := ⟨Try.f176.name, by decide, Try.func176.trans (congrArg some (by kernel_rfl))⟩
  f23 := ⟨Try.f177.name, by decide, Try.func177.trans (congrArg some (by kernel_rfl))⟩
  f24 := ⟨Try.f178.name, by decide, Try.func178.trans (congrArg some (by kernel_rfl))⟩
  f25 := ⟨Try.f179.name, by decide, Try.func179.trans (congrArg some (by kernel_rfl))⟩
  f26 := ⟨Try.f180.name, by decide, Try.func180.trans (congrArg some (by kernel_rfl))⟩
  f27 := ⟨Try.f181.name, by decide, Try.func181.trans (congrArg some (by kernel_rfl))⟩
  f28 := Try.func182.trans (congrArg some (by kernel_rfl))
  f29 := Try.func183.trans (congrArg some (by kernel_rfl))
  f46 := ⟨Try.f186.name, by decide, Try.func186.trans (congrArg some (by kernel_rfl))⟩
  f47 := Try.func187.trans (congrArg some (by kernel_rfl))
  f48 := Try.func188.trans (congrArg some (by kernel_rfl))
  f49 := ⟨Try.f189.name, by decide, Try.func189.trans (congrArg some (by kernel_rfl))⟩
  f50 := ⟨Try.f190.name, by decide, Try.func190.trans (congrArg some (by kernel_rfl))⟩
  f57 := ⟨Try.f191.name, by decide, Try.func191.trans (congrArg some (by kernel_rfl))⟩
  t0 := Try.underlying0
  a0 := Try.isAgg0
  z0 := Try.sizeOf0
  v0 := Try.zeroValue0
  t3 := Try.underlying3
  a3 := Try.isAgg3
  z3 := Try.sizeOf3
  v3 := Try.zeroValue3
  t4 := Try.underlying4
  a4 := Try.isAgg4
  z4 := Try.sizeOf4
  v4 := Try.zeroValue4
  t5 := Try.underlying5
  a5 := Try.isAgg5
  z5 := Try.sizeOf5
  v5 := Try.zeroValue5
  t9 := Try.underlying9
  a9 := Try.isAgg9
  z9 := Try.sizeOf9
  v9 := Try.zeroValue9
  t22 := Try.underlying24
  a22 := Try.isAgg24
  z22 := Try.sizeOf24
  v22 := Try.zeroValue24
  t25 := Try.underlying161
  a25 := Try.isAgg161
  z25 := Try.sizeOf161
  v25 := Try.zeroValue161
  t39 := Try.underlying155
  a39 := Try.isAgg155
  z39 := Try.sizeOf155
  v39 := Try.zeroValue155
  t45 := Try.underlying197
  a45 := Try.isAgg197
  z45 := Try.sizeOf197
  v45 := Try.zeroValue197
  t46 := Try.underlying198
  a46 := Try.isAgg198
  z46 := Try.sizeOf198
  v46 := Try.zeroValue198
  t50 := Try.underlying173
  a50 := Try.isAgg173
  z50 := Try.sizeOf173
  v50 := Try.zeroValue173
  t53 := Try.underlying177
  a53 := Try.isAgg177
  z53 := Try.sizeOf177
  v53 := Try.zeroValue177
  t55 := Try.underlying175
  a55 := Try.isAgg175
  z55 := Try.sizeOf175
  v55 := Try.zeroValue175
  t66 := Try.underlying206
  a66 := Try.isAgg206
  z66 := Try.sizeOf206
  v66 := Try.zeroValue206
  t70 := Try.underlying209
  a70 := Try.isAgg209
  z70 := Try.sizeOf209
  v70 := Try.zeroValue209
  t76 := Try.underlying211
  a76 := Try.isAgg211
  z76 := Try.sizeOf211
  v76 := Try.zeroValue211
  t77 := Try.underlying212
  a77 := Try.isAgg212
  z77 := Try.sizeOf212
  v77 := Try.zeroValue212 }

end Go.Proofs.Ytgjgcdpjbpccnaa

set_option linter.unusedSimpArgs false
set_option linter.unusedVariables false
namespace Go.Proofs.Ytgjgcdpjbpccnaa
open Go.RowKit Go.Sort

/-- Draws and new blocks alone. -/
def Gr (w w' : World) : Prop := ∃ q os, w' = Sort.grow (w.drewN q) os
theorem Gr.refl (w : World) : Gr w w := ⟨0, #[], (grow_empty w).symm⟩
theorem Gr.alloc_ {w w' : World} (h : Gr w w') (o : Obj) : Gr w (w'.alloc o) := by
  obtain ⟨q, os, rfl⟩ := h
  exact ⟨q, os ++ #[o], by rw [alloc_eq_grow, grow_grow]⟩
theorem Gr.drew_ {w w' : World} (h : Gr w w') : Gr w w'.drew := by
  obtain ⟨q, os, rfl⟩ := h
  exact ⟨q + 1, os, rfl⟩
theorem Gr.drewN_ {w w' : World} (h : Gr w w') (n : Nat) : Gr w (w'.drewN n) := by
  obtain ⟨q, os, rfl⟩ := h
  exact ⟨q + n, os, by simp [Sort.grow, World.drewN, Nat.add_assoc]⟩
theorem Gr.trans_ {a b c : World} (h : Gr a b) (k : Gr b c) : Gr a c := by
  obtain ⟨q', os', rfl⟩ := k
  obtain ⟨q, os, h⟩ := h.drewN_ q'
  exact ⟨q, os ++ os', by rw [h, grow_grow]⟩
theorem Gr.bl {w w' : World} (h : Gr w w') : Bl w w' := by
  obtain ⟨q, os, rfl⟩ := h
  exact ⟨rfl, rfl, rfl, by rw [size_grow]; exact Nat.le_add_right _ _, fun i hi => heap_grow_old _ os hi⟩

theorem two_boxes_g {w wx : World} {a b x c d y : Int} (h : Gr ((w.alloc (.cells #[.int .i64 a, .int .i64 b, .int .i64 x] 33)).alloc (.cells #[.int .i64 c, .int .i64 d, .int .i64 y] 33)) wx) :
    Gr ((w.alloc (.cells #[.int .i64 a, .int .i64 b, .int .i64 x] 33)).alloc (.cells #[.int .i64 c, .int .i64 d, .int .i64 y] 33)) wx ∧ wx.cell? ⟨w.heap.size, 0, none⟩ = some (.int .i64 a) ∧ wx.cell? ⟨w.heap.size, 1, none⟩ = some (.int .i64 b) ∧ wx.cell? ⟨w.heap.size + 1, 0, none⟩ = some (.int .i64 c) ∧ wx.cell? ⟨w.heap.size + 1, 1, none⟩ = some (.int .i64 d) :=
  ⟨h, (two_boxes h.bl).2⟩

set_option maxHeartbeats 1000000 in
theorem ends_gr (a b x c d y : Int) (w : World) :
    Calls Try.prog 141 #[.agg #[.int .i64 a, .int .i64 b, .int .i64 x], .agg #[.int .i64 c, .int .i64 d, .int .i64 y]] w fun e w' => e = .returned (.int .i64 (endsI a b c d)) ∧ Gr w w' := by
  go_enter Try.func141, Try.ntmps141
  go_wp2
  go_region_held3 (fun wx => Gr ((w.alloc (.cells #[.int .i64 a, .int .i64 b, .int .i64 x] 33)).alloc (.cells #[.int .i64 c, .int .i64 d, .int .i64 y] 33)) wx ∧ wx.cell? ⟨w.heap.size, 0, none⟩ = some (.int .i64 a) ∧ wx.cell? ⟨w.heap.size, 1, none⟩ = some (.int .i64 b) ∧ wx.cell? ⟨w.heap.size + 1, 0, none⟩ = some (.int .i64 c) ∧ wx.cell? ⟨w.heap.size + 1, 1, none⟩ = some (.int .i64 d)) (exact two_boxes_g (by repeat' (first | exact Gr.refl _ | with_reducible assumption | with_reducible refine Gr.drew_ ?_ | with_reducible refine Gr.drewN_ ?_ _ | with_reducible refine Gr.alloc_ ?_ _ | with_reducible refine Gr.trans_ ?_ (by assumption) | with_reducible refine Gr.trans_ ?_ (And.left (by assumption))))) (first | (go_at_call 167; refine (cmp_any _ _ _).mono ?_; rintro e w' ⟨rfl, rfl⟩) | (go_at_call 166; refine (or_any (cmpI a c) (cmpI b d) _ _ _ ?_ ?_).mono ?_; (· go_simp); (· go_simp); rintro e w' ⟨rfl, rfl⟩))
  go_wp2
  go_ret
  exact ⟨ret_int rfl, (by repeat' (first | exact Gr.refl _ | with_reducible assumption | with_reducible refine Gr.drew_ ?_ | with_reducible refine Gr.drewN_ ?_ _ | with_reducible refine Gr.alloc_ ?_ _ | with_reducible refine Gr.trans_ ?_ (by assumption) | with_reducible refine Gr.trans_ ?_ (And.left (by assumption))))⟩

/-- An arc's cells. -/
def enc3 (a : Arc3) : List Value := [.int .i64 a.1, .int .i64 a.2.1, .int .i64 a.2.2]
/-- The order of two arcs by their ends, as a number. -/
def endsC (x y : Arc3) : Int := endsI x.1 x.2.1 y.1 y.2.1
theorem ltOf_ends (x y : Arc3) : ltOf endsC x y = aheadB x.1 x.2.1 y.1 y.2.1 := ends_neg _ _ _ _
theorem swo_ends : SWO (ltOf endsC) where
  irrefl x := by rw [ltOf_ends]; exact ahead_irrefl _ _
  trans x y z h1 h2 := by rw [ltOf_ends] at *; exact ahead_trans h1 h2
  ntrans x y z h1 h2 := by
    rw [ltOf_ends] at *
    simp only [aheadB, decide_eq_false_iff_not] at *
    omega
theorem cmp_lays (blk off size : Nat) (w : World) : CmpLays Try.prog 141 #[] enc3 3 endsC blk off size w := fun _ _ _ _ x y => ends_gr _ _ _ _ _ _ _

theorem sorted_turned {L : List Arc3} {d d' : Array Arc3} (hs : L.Pairwise AheadP) (hd : d.toList = L.map turnA) (hp : PermIn 0 d.size d d') (hso : SortedIn (ltOf endsC) 0 d.size d') : d'.toList = revL L := by
  obtain ⟨hsz, -, hperm⟩ := hp
  have e1 : d'.extract 0 d.size = d' := by rw [← hsz]; exact Array.extract_size
  rw [e1, Array.extract_size, hd] at hperm
  obtain ⟨r1, r2⟩ := revL_sorted hs
  have hne : (L.map turnA).Pairwise (fun a b => ¬ (a.1 = b.1 ∧ a.2.1 = b.2.1)) := by
    rw [List.pairwise_map]
    exact hs.imp fun {a b} h => fun hc => ahead_ne h ⟨hc.2, hc.1⟩
  have hne' := hperm.symm.pairwise hne (fun {x y} h => fun hc => h ⟨hc.1.symm, hc.2.symm⟩)
  refine sorted_uniq ?_ r1 (hperm.trans r2.symm)
  rw [List.pairwise_iff_getElem] at hne' ⊢
  intro i j hi hj hij
  have hi' : i < d'.size := by simpa using hi
  have hj' : j < d'.size := by simpa using hj
  have h1 := hso i j (Nat.zero_le _) hij (by omega)
  rw [getElem!_pos d' j hj', getElem!_pos d' i hi', ltOf_ends] at h1
  have h2 := hne' i j hi hj hij
  exact ahead_total (by simpa using h1) (fun hc => h2 ⟨hc.1.symm, hc.2.symm⟩)

theorem flat_arcs (T : List Arc3) : flatK enc3 3 T.toArray = (cs3 T).toArray := by
  refine ext_get! (by simp [cs3_length]) fun t ht => ?_
  have ht' : t < T.toArray.size * 3 := by simpa using ht
  have htl : t < T.length * 3 := by simpa using ht'
  rw [get_flatK _ _ _ _ ht']
  have hk : t / 3 < T.length := by omega
  obtain ⟨a, b, c⟩ := cs3_at T (t / 3) hk
  have e : t = t / 3 * 3 + t % 3 := by omega
  have h3 : t % 3 = 0 ∨ t % 3 = 1 ∨ t % 3 = 2 := by omega
  have hg : T.toArray[t / 3]! = T[t / 3] := by rw [getElem!_pos T.toArray (t / 3) (by simpa using hk)]; simp
  have key : ∀ r, t % 3 = r → (cs3 T).toArray[t]! = ((cs3 T)[t / 3 * 3 + r]?).getD default := fun r hr => by
    rw [← hr, ← e]
    simp
  rw [hg]
  rcases h3 with h3 | h3 | h3
  · rw [key 0 h3, Nat.add_zero, a, h3]; rfl
  · rw [key 1 h3, b, h3]; rfl
  · rw [key 2 h3, c, h3]; rfl

theorem holds_arcs {w : World} {B g c : Nat} {T : List Arc3} (h : OwnA w B (.slice (some ⟨g, 0, none⟩) T.length c) T) : HoldsK enc3 3 w g 0 T.toArray := by
  unfold HoldsK
  rw [flat_arcs]
  intro j hj
  have hj' : j < (cs3 T).length := by simpa using hj
  have h' : w.ownsRow B 33 3 (.slice (some ⟨g, 0, none⟩) T.length c) T.length (cs3 T) := h
  refine ⟨?_, by rw [Nat.zero_add]; exact World.ownsRow.frozenAt h' j⟩
  rw [Nat.zero_add, World.ownsRow.cellAt h' j (by rw [cs3_length] at hj'; exact hj'), getElem!_pos _ j hj]
  simp [hj']

theorem sorted_own {w : World} {B g c : Nat} {T T' : List Arc3} (h : OwnA w B (.slice (some ⟨g, 0, none⟩) T.length c) T) (hl : T'.length = T.length) (m : Nat) (os : Array Obj) :
    OwnA (sortWorldK enc3 3 w g 0 m T'.toArray os) B (.slice (some ⟨g, 0, none⟩) T.length c) T' ∧ w.grownBy (sortWorldK enc3 3 w g 0 m T'.toArray os) (some g) := by
  have h' : w.ownsRow B 33 3 (.slice (some ⟨g, 0, none⟩) T.length c) T.length (cs3 T) := h
  have hother : w.grownBy (sortWorldK enc3 3 w g 0 m T'.toArray os) (some g) := by
    refine ⟨rfl, rfl, rfl, ?_, fun i hi hne => ?_⟩
    · unfold sortWorldK
      rw [size_grow, size_putRowK]
      exact Nat.le_add_right _ _
    · have hne' : g ≠ i := fun e => hne (by rw [e])
      have hsz : i < (putRowK enc3 3 (Sort.ahead w m) g 0 T'.toArray).heap.size := by rw [size_putRowK]; exact hi
      unfold sortWorldK
      rw [heap_grow_old _ _ hsz]
      simp [putRowK, putRow, mapBlock, Sort.ahead, Array.getElem?_modify, hne']
  refine ⟨⟨by rw [cs3_length], ?_⟩, hother⟩
  rcases h'.2 with ⟨e, h0⟩ | ⟨g', cap, cur, e, hB, hg, hnc, hcm, hcs, htake⟩
  · injection e with e1 e2 e3
    cases e1
  · injection e with e1 e2 e3
    injection e1 with e1
    injection e1 with e1
    subst e1
    have hlt : g < w.heap.size := (Array.getElem?_eq_some_iff.1 hg).1
    have hsz : g < (putRowK enc3 3 (Sort.ahead w m) g 0 T'.toArray).heap.size := by rw [size_putRowK]; exact hlt
    refine .inr ⟨g, cap, putCells id 0 (flatK enc3 3 T'.toArray) cur, by rw [hl, e3], hB, ?_, by rw [hl]; exact hnc, hcm, by simp [putCells, hcs], ?_⟩
    · unfold sortWorldK
      rw [heap_grow_old _ _ hsz]
      simp [putRowK, putRow, mapBlock, Sort.ahead, Array.getElem?_modify, hg, onCells]
    · rw [flat_arcs]
      refine List.ext_getElem (by simp [putCells, hcs, cs3_length]; omega) fun i h1 h2 => ?_
      have hi : i < (cs3 T').length := h2
      simp [putCells, hi]

set_option maxHeartbeats 1000000 in
/-- The sort of arcs that are turned. -/
theorem sort_arcs (L T : List Arc3) (hs : L.Pairwise AheadP) (hT : T = L.map turnA) (B : Nat) (v : Value) (w : World) (hm : T.length ≤ 1048576) (h : OwnA w B v T) :
    Calls Try.prog 142 #[v, .func (.func 141) #[] #[]] w fun e w' => e = .returned (.tuple #[]) ∧ OwnA w' B v (revL L) ∧ w.grownBy w' v.ownBlock := by
  have h' : w.ownsRow B 33 3 v T.length (cs3 T) := h
  have hrl : (revL L).length = T.length := by rw [revL_len hs, hT, List.length_map]
  rcases h'.2 with ⟨rfl, h0⟩ | ⟨g, cap, cur, rfl, hB, hg, hnc, hcm, hcs, htake⟩
  · have hcon := AnyF.slices_SortFunc_none { sortArcs with } none 0 (.func (.func 141) #[] #[]) w
    change Calls Try.prog 142 _ _ _ at hcon
    refine hcon.mono ?_
    rintro e w' ⟨rfl, rfl⟩
    have e0 : revL L = [] := List.eq_nil_of_length_eq_zero (by omega)
    exact ⟨rfl, by rw [e0]; exact OwnA.nil_ _ _, World.grownBy.refl _ _⟩
  · have eg : ∀ args w, (callFunc 141 args).run Try.prog w = .ok (.enter 141 args) w := enters_of Try.func141 (by kernel_rfl) rfl
    have hcon := AnyQ.slices_SortFunc sortArcs 3 Try.isAgg33 Try.sizeOf33 enc3 (fun _ => rfl) (fun x v hv => by simp [enc3] at hv; rcases hv with rfl | rfl | rfl <;> rfl) endsC swo_ends 141 #[] g 0 cap T.toArray w eg (cmp_lays g 0 _ w) (holds_arcs h) (Array.getElem?_eq_some_iff.1 hg).1 (by simp; omega)
    change Calls Try.prog 142 _ _ _ at hcon
    refine hcon.mono ?_
    rintro e w' ⟨rfl, d', n, os, hp, hso, rfl⟩
    have e' : d' = (revL L).toArray := by
      have := sorted_turned hs (d := T.toArray) (by simpa using hT) hp hso
      rw [← this]
    rw [e']
    obtain ⟨o1, o2⟩ := sorted_own h hrl n os
    exact ⟨rfl, o1, o2⟩

end Go.Proofs.Ytgjgcdpjbpccnaa

set_option linter.unusedSimpArgs false
set_option linter.unusedVariables false
namespace Go.Proofs.Ytgjgcdpjbpccnaa
open Go.RowKit

set_option maxRecDepth 100000 in
set_option maxHeartbeats 4000000 in
theorem implTurned_any (N : Int) (A : Option Addr) (n c : Nat) (L : List Arc3) (hn : n = L.length) (w : World) (hm : n ≤ 1048576) (hs : L.Pairwise AheadP) (H1 : ArcsAt w w.heap.size A L) :
    Calls Try.prog 96 #[.agg #[.int .i64 N, .slice A n c]] w (GraphMade1 N (revL L) w) := by
  obtain ⟨i0, hi, hz0, hz1, hz2⟩ := info_parts infoArc
  have I0 := Lib.hid hi
  have I1 := Lib.hid hz0
  have I2 := Lib.hid hz1
  have I3 := Lib.hid hz2
  have K1 := Lib.hid H1
  have HN := Lib.hid hn
  have HP := Lib.hid hs
  clear H1 hn hi hz0 hz1 hz2 hs
  go_enter Try.func96, Try.ntmps96
  have T0 := Lib.hid (show TS w (.cells #[.int .i64 N, .slice A n c] 26) (w.heap.size + 1) (w.heap.size + 1 + 1) N (.slice none 0 0) [] (((w.alloc (.cells #[.int .i64 N, .slice A n c] 26)).alloc (.cells #[.int .i64 0, .slice none 0 0] 26)).alloc (.cells #[.int .i64 N, .slice none 0 0] 26)) from by
    refine ⟨?_, ?_, OwnA.nil_ _ _, ?_, by omega, by omega⟩
    · have := Two.new ((w.alloc (.cells #[.int .i64 N, .slice A n c] 26)).alloc (.cells #[.int .i64 0, .slice none 0 0] 26)) (.int .i64 N) (.slice none 0 0)
      simpa only [World.size_alloc] using this
    · have := (Two.new (w.alloc (.cells #[.int .i64 N, .slice A n c] 26)) (.int .i64 0) (.slice none 0 0)).bl (Bl.alloc_ (Bl.refl _) (.cells #[.int .i64 N, .slice none 0 0] 26))
      simpa only [World.size_alloc] using this
    · exact ((Bl.refl _).alloc_ _).alloc_ _)
  obtain ⟨y0, y1⟩ := box2 T0.out.bl
  go_wp2_with fail
  clear y0 y1
  go_loopw [12] (fun i wr => ∃ (k : Nat) (q : Value), k ≤ n ∧ i = .int .i64 k ∧ TS w (.cells #[.int .i64 N, .slice A n c] 26) (w.heap.size + 1) (w.heap.size + 1 + 1) N q (turnK L k) wr) (fun i _ => n - (intOf i).toNat)
  case atStart => exact ⟨0, _, by omega, rfl, T0.out⟩
  case round =>
    obtain ⟨k, q, hk, rfl, hT⟩ := hrel
    obtain ⟨c0, c1, f0, f1⟩ := hT.box.facts
    obtain ⟨AQ, cq, rfl, hAQ, -⟩ := hT.own.shape
    have T := Lib.hid hT
    have hbw : Bl w wr := (Bl.alloc_ (Bl.refl w) _).trans_ hT.bl
    have hlt' := World.rowIs.lt hT.box
    clear hT hAQ T0
    by_cases hlt : k < n
    · have hkl : k < L.length := by have := HN.out; omega
      obtain ⟨g1, o1, rfl, hg1, hc1⟩ := K1.out (by omega)
      obtain ⟨p1, p2, p3⟩ := hc1 k hkl
      clear hc1
      rw [← (bcell hbw).1 _ _ hg1] at p1 p2 p3
      have TK := Lib.hid (turnK_succ hkl)
      have hlen := turnK_len L k
      generalize hx : L[k].1 = x at p1
      generalize hy : L[k].2.1 = y at p2
      generalize hz : L[k].2.2 = z at p3
      have HE := Lib.hid (show turnA L[k] = (y, x, z) from by unfold turnA; rw [hx, hy, hz])
      clear hx hy hz hbw
      obtain ⟨l, hl⟩ : ∃ l, l = (turnK L k).length := ⟨_, rfl⟩
      rw [← hl] at hlen c1 T
      have HL := Lib.hid hl
      clear hl
      have u1 : (0 : Int) ≤ (k : Int) := by omega
      have u2 : (k : Int) < (n : Int) := by omega
      have T2 := Lib.hid (T.out.bl_ (show Bl wr ((wr.alloc (.cells #[.int .i64 x, .int .i64 y, .int .i64 z] 33)).alloc (.cells #[.int .i64 y, .int .i64 x, .int .i64 z] 33)) from (by repeat' (first | exact Bl.refl _ | with_reducible assumption | with_reducible refine Bl.drew_ ?_ | with_reducible refine Bl.drewN_ ?_ _ | with_reducible refine Bl.alloc_ ?_ _ | with_reducible refine Bl.trans_ ?_ (by assumption) | with_reducible refine Bl.trans_ ?_ (And.left (by assumption))))))
      go_wp2_with (at_builtin; refine wpList_append_own _ rfl (.tmp 17) (.tmp 25) _ rfl ((w.heap.size + 1 + 1) + 1) 33 i0 _ 3 24 Try.underlying24 I0.out I1.out I2.out I3.out rfl (by decide) _ l (cs3 (turnK L k)) rfl ?c0 ⟨wr.heap.size + 1, 0, none⟩ 1 1 [.int .i64 y, .int .i64 x, .int .i64 z] rfl rfl ?c1 (one3 _ _ _) ?c3 ?c4 ?c5 ?_)
      case c0 => have := T2.out.own; rw [HL.out] at this ⊢; exact this
      case c1 => have := new3 (wr.alloc (.cells #[.int .i64 x, .int .i64 y, .int .i64 z] 33)) (.int .i64 y) (.int .i64 x) (.int .i64 z) 33; simpa using this
      case c3 => unfold maxLen; omega
      case c4 => omega
      case c5 => simp; omega
      intro v2 w2 hown2 hg2 _
      have O2 := Lib.hid (show OwnA w2 ((w.heap.size + 1 + 1) + 1) v2 (turnK L (k + 1)) from by
        rw [TK.out, HE.out]
        exact own_snoc (a := (y, x, z)) (by rw [← HL.out]; exact hown2))
      have G2 := Lib.hid hg2
      clear hown2 hg2
      have U := Lib.hid (T2.out.app G2.out O2.out)
      obtain ⟨b0, -, -⟩ := T2.out.grown_ G2.out O2.out
      obtain ⟨A2, c2, rfl, -, -⟩ := O2.out.shape
      obtain ⟨d0, d1, k0, k1⟩ := b0.facts
      clear b0 c0 c1 f0 f1
      go_wp2
      go_roundw
      case rel => exact ⟨k + 1, _, by omega, by go_num, U.out⟩
      case measure => simp [intOf]; omega
    · obtain rfl : k = n := by omega
      have TA := Lib.hid (show turnK L k = L.map turnA from by rw [HN.out]; exact turnK_all L)
      have hlen := turnK_len L k
      go_wp2_with fail
      refine (sort_arcs L (turnK L k) HP.out TA.out ((w.heap.size + 1 + 1) + 1) _ _ (by omega) T.out.own).mono ?_
      rintro e w2 ⟨rfl, ho, hg⟩
      have U := Lib.hid (T.out.same hg ho)
      clear ho hg c0 c1 f0 f1
      obtain ⟨c0, c1, f0, f1⟩ := U.out.box.facts
      obtain ⟨r0, r1, fr0, fr1⟩ := U.out.res.facts
      go_wp2
      refine bodyPost_ret (v := .agg #[.int .i64 N, .slice AQ (turnK L k).length cq]) (by simp [results, Try.results96, go_sem, r0, r1, fr0, fr1]) rfl ?_
      have := U.out.fin (.int .i64 N) (.slice AQ (turnK L k).length cq)
      exact ⟨_, rfl, this.1, this.2⟩

set_option maxHeartbeats 1000000 in
theorem implReversed_any (N : Int) (A : Option Addr) (n c : Nat) (L : List Arc3) (hn : n = L.length) (w : World) (hm : n ≤ 1048576) (H1 : ArcsAt w w.heap.size A L) :
    Calls Try.prog 30 #[.agg #[.int .i64 N, .slice A n c]] w (GraphMade1 (revN N L) (revG N L) w) := by
  have K1 := Lib.hid H1
  have HN := Lib.hid hn
  clear H1 hn
  cases ho : okB N L with
  | false =>
    have HO := Lib.hid ho
    clear ho
    go_enter Try.func30, Try.ntmps30
    go_wp2_with fail
    refine (implOk_any N A n c L HN.out _ (by omega) (K1.out.bl (by repeat' (first | exact Bl.refl _ | with_reducible assumption | with_reducible refine Bl.drew_ ?_ | with_reducible refine Bl.drewN_ ?_ _ | with_reducible refine Bl.alloc_ ?_ _ | with_reducible refine Bl.trans_ ?_ (by assumption) | with_reducible refine Bl.trans_ ?_ (And.left (by assumption)))))).mono ?_
    rintro e w1 ⟨rfl, hb1⟩
    rw [HO.out]
    obtain ⟨h00, h01, h10, h11, f10, f11, hsz⟩ := box22 hb1
    go_wp2
    refine bodyPost_ret (v := .agg #[.int .i64 0, .slice none 0 0]) (by simp [results, Try.results30, go_sem, h10, h11, f10, f11]) rfl ?_
    refine ⟨.slice none 0 0, by unfold revN; rw [HO.out]; rfl, by unfold revG; rw [HO.out, if_neg (by simp)]; exact OwnA.nil_ _ _, ?_⟩
    exact Bl.set_ (Bl.set_ ((Bl.alloc_ (Bl.alloc_ (Bl.refl w) _) _).trans_ hb1) (Nat.le_succ _) _) (Nat.le_succ _) _
  | true =>
    have HO := Lib.hid ho
    have HP := Lib.hid (okB_elim ho).2.2.2.2
    clear ho
    go_enter Try.func30, Try.ntmps30
    go_wp2_with fail
    refine (implOk_any N A n c L HN.out _ (by omega) (K1.out.bl (by repeat' (first | exact Bl.refl _ | with_reducible assumption | with_reducible refine Bl.drew_ ?_ | with_reducible refine Bl.drewN_ ?_ _ | with_reducible refine Bl.alloc_ ?_ _ | with_reducible refine Bl.trans_ ?_ (by assumption) | with_reducible refine Bl.trans_ ?_ (And.left (by assumption)))))).mono ?_
    rintro e w1 ⟨rfl, hb1⟩
    rw [HO.out]
    obtain ⟨h00, h01, h10, h11, f10, f11, hsz⟩ := box22 hb1
    have BW := Lib.hid (show Bl w w1 from (Bl.alloc_ (Bl.alloc_ (Bl.refl w) _) _).trans_ hb1)
    have B1 := Lib.hid hb1
    clear h10 h11 f10 f11
    go_wp2_with fail
    refine (implTurned_any N A n c L HN.out _ hm HP.out (K1.out.bl BW.out)).mono ?_
    rintro e w2 ⟨q, rfl, hq, hb2⟩
    obtain ⟨Aq, cq, rfl, -⟩ := hq.shape
    have Q := Lib.hid hq
    have B2 := Lib.hid hb2
    obtain ⟨g00, g01, g10, g11, k10, k11, gsz⟩ := box22 (B1.out.trans_ hb2)
    clear hq hb2 h00 h01 g00 g01 hb1
    go_wp2
    refine bodyPost_ret (v := .agg #[.int .i64 N, .slice Aq (revL L).length cq]) (by simp [results, Try.results30, go_sem, g10, g11, k10, k11]) rfl ?_
    have hne : ∀ g, (Value.slice Aq (revL L).length cq).ownBlock = some g → g ≠ w.heap.size + 1 := fun g hg => by have := (Owns.lt Q.out g hg).1; omega
    refine ⟨_, by unfold revN; rw [HO.out]; rfl, ?_, ?_⟩
    · unfold revG
      rw [HO.out, if_pos rfl]
      exact OwnA.low (Owns.setOther (Owns.setOther Q.out (p := ⟨w.heap.size + 1, 0, none⟩) hne _) (p := ⟨w.heap.size + 1, 1, none⟩) hne _) (by have := BW.out.size; omega)
    · exact Bl.set_ (Bl.set_ (BW.out.trans_ B2.out) (Nat.le_succ _) _) (Nat.le_succ _) _

end Go.Proofs.Ytgjgcdpjbpccnaa

set_option linter.unusedSimpArgs false
set_option linter.unusedVariables false
namespace Go.Proofs.Ytgjgcdpjbpccnaa
open Go.RowKit

/-- A path and a flag are left. -/
def PathMade (P : List Int) (w : World) (e : Ending) (w' : World) : Prop := ∃ v, e = .returned (.tuple #[v, .bool (decide (0 < P.length))]) ∧ OwnN w' w.heap.size v P ∧ Bl w w'
theorem pathL_none {N s t : Int} {L : List Arc3} (h : has2 N L s t = false) : pathL N L s t = [] := by
  unfold pathL
  rw [if_neg (by rw [h]; simp)]
theorem OwnA.capp {w : World} {B : Nat} {v : Value} {L : List Arc3} (h : OwnA w B v L) : ∀ A l c, v = .slice A l c → L.length ≤ c := fun A l c ev => by
  subst ev
  have h' : w.ownsRow B 33 3 (.slice A l c) L.length (cs3 L) := h
  rcases h'.2 with ⟨e, h0⟩ | ⟨g, cap, cur, e, hB, hg, hnc, -⟩
  · injection e with e1 e2 e3
    omega
  · injection e with e1 e2 e3
    omega

set_option maxRecDepth 100000 in
set_option maxHeartbeats 4000000 in
theorem implPathOf_any (N s t : Int) (A : Option Addr) (n c : Nat) (L : List Arc3) (hn : n = L.length) (hc : n ≤ c) (w : World) (hm : n ≤ 1048576) (H1 : ArcsAt w w.heap.size A L) :
    Calls Try.prog 19 #[.agg #[.int .i64 N, .slice A n c], .int .i64 s, .int .i64 t] w (PathMade (pathL N L s t) w) := by
  obtain ⟨i0, hi, hz0, hz1, hz2⟩ := info_parts infoInt
  have I0 := Lib.hid hi
  have I1 := Lib.hid hz0
  have I2 := Lib.hid hz1
  have I3 := Lib.hid hz2
  have K1 := Lib.hid H1
  have HN := Lib.hid hn
  clear H1 hn hi hz0 hz1 hz2
  cases hh : has2 N L s t with
  | false =>
    have HH := Lib.hid hh
    clear hh
    go_enter Try.func19, Try.ntmps19
    go_wp2_with fail
    refine (hasNodes_2 N s t A n c L HN.out (w.heap.size + 1) 2 _ (by omega) (K1.out.bl (by repeat' (first | exact Bl.refl _ | with_reducible assumption | with_reducible refine Bl.drew_ ?_ | with_reducible refine Bl.drewN_ ?_ _ | with_reducible refine Bl.alloc_ ?_ _ | with_reducible refine Bl.trans_ ?_ (by assumption) | with_reducible refine Bl.trans_ ?_ (And.left (by assumption))))) (by simp) (by simp [go_sem]) (by simp [go_sem])).mono ?_
    rintro e w1 ⟨rfl, hb1⟩
    rw [HH.out]
    go_wp2
    go_ret2
    exact ⟨_, by rw [pathL_none HH.out]; rfl, by rw [pathL_none HH.out]; exact OwnN.nil_ _ _, (by repeat' (first | exact Bl.refl _ | with_reducible assumption | with_reducible refine Bl.drew_ ?_ | with_reducible refine Bl.drewN_ ?_ _ | with_reducible refine Bl.alloc_ ?_ _ | with_reducible refine Bl.trans_ ?_ (by assumption) | with_reducible refine Bl.trans_ ?_ (And.left (by assumption))))⟩
  | true =>
    have HH := Lib.hid hh
    obtain ⟨ho, ⟨hs0, hs1⟩, ht0, ht1⟩ := has2_of hh
    have hN24 := (okB_elim ho).2.1
    have HO := Lib.hid ho
    have HRO := Lib.hid (revL_ok ho)
    have HRL := Lib.hid (revL_len (okB_elim ho).2.2.2.2)
    have HE := Lib.hid (distL_is (s := t) (arcsIn_of_ok (revL_ok ho)) hN24 ht0 ht1)
    have HET := Lib.hid (fun v => distL_top (s := t) (revL_ok ho) ht0 ht1 v)
    obtain ⟨u, rfl⟩ : ∃ u : Nat, s = u := ⟨s.toNat, by omega⟩
    clear hh ho
    go_enter Try.func19, Try.ntmps19
    go_wp2_with fail
    refine (hasNodes_2 N u t A n c L HN.out (w.heap.size + 1) 2 _ (by omega) (K1.out.bl (by repeat' (first | exact Bl.refl _ | with_reducible assumption | with_reducible refine Bl.drew_ ?_ | with_reducible refine Bl.drewN_ ?_ _ | with_reducible refine Bl.alloc_ ?_ _ | with_reducible refine Bl.trans_ ?_ (by assumption) | with_reducible refine Bl.trans_ ?_ (And.left (by assumption))))) (by simp) (by simp [go_sem]) (by simp [go_sem])).mono ?_
    rintro e w1 ⟨rfl, hb1⟩
    rw [HH.out]
    have hx := (bcell hb1).1
    have q0 : w1.cell? ⟨w.heap.size, 0, none⟩ = some (.int .i64 N) := (hx _ _ (by simp; omega)).trans (by simp [go_sem])
    have q1 : w1.cell? ⟨w.heap.size, 1, none⟩ = some (.slice A n c) := (hx _ _ (by simp; omega)).trans (by simp [go_sem])
    have hbw : Bl w w1 := (((Bl.refl w).alloc_ _).alloc_ _).trans_ hb1
    have hsw : w.heap.size < w1.heap.size := by have := hb1.size; simp at this; omega
    clear hx hb1
    go_wp2_with fail
    refine (implReversed_any N A n c L HN.out _ hm (K1.out.bl hbw)).mono ?_
    rintro e w2 ⟨v6, rfl, hv6, hb2⟩
    rw [show revN N L = N from if_pos HO.out]
    rw [show revG N L = revL L from if_pos HO.out] at hv6
    have hcap := OwnA.capp hv6
    obtain ⟨A6, c6, rfl, ha6, -⟩ := hv6.shape
    have V6 := Lib.hid ha6
    have HC6 := Lib.hid (hcap _ _ _ rfl)
    clear hv6 hcap ha6
    go_wp2_with fail
    refine (distances_any N t A6 (revL L).length c6 (revL L) rfl HC6.out HRO.out ht0 ht1 _ V6.out).mono ?_
    rintro e w3 ⟨E, rfl, hE, hEd, hb3⟩
    have EL := Lib.hid hE
    have ED := Lib.hid hEd
    have HB3 := Lib.hid (hbw.trans_ (hb2.trans_ hb3))
    have hb13 := hb2.trans_ hb3
    have r0 := ((bcell hb13).1 _ _ hsw).trans q0
    have r1 := ((bcell hb13).1 _ _ hsw).trans q1
    have hs3 := hb13.size
    have hsw3 : w.heap.size < w3.heap.size := by omega
    clear hE hEd q0 q1 hb2 hb3 hb13 hbw
    have NS := Lib.hid (NumsAt.stored EL.out (by simp) (there_new w3 102))
    have hbS := Bl.setCells_ w3.heap.size (Nat.le_refl _) (csI E) 0 _ ((Bl.refl w3).alloc_ (.cells #[.int .i64 0, .int .i64 0, .int .i64 0, .int .i64 0, .int .i64 0, .int .i64 0, .int .i64 0, .int .i64 0, .int .i64 0, .int .i64 0, .int .i64 0, .int .i64 0, .int .i64 0, .int .i64 0, .int .i64 0, .int .i64 0, .int .i64 0, .int .i64 0, .int .i64 0, .int .i64 0, .int .i64 0, .int .i64 0, .int .i64 0, .int .i64 0] 102))
    have HBS := Lib.hid hbS
    have hz := setCells_size w3.heap.size (csI E) 0 (w3.alloc (.cells #[.int .i64 0, .int .i64 0, .int .i64 0, .int .i64 0, .int .i64 0, .int .i64 0, .int .i64 0, .int .i64 0, .int .i64 0, .int .i64 0, .int .i64 0, .int .i64 0, .int .i64 0, .int .i64 0, .int .i64 0, .int .i64 0, .int .i64 0, .int .i64 0, .int .i64 0, .int .i64 0, .int .i64 0, .int .i64 0, .int .i64 0, .int .i64 0] 102))
    obtain ⟨W, hW⟩ : ∃ W, W = (w3.alloc (.cells #[.int .i64 0, .int .i64 0, .int .i64 0, .int .i64 0, .int .i64 0, .int .i64 0, .int .i64 0, .int .i64 0, .int .i64 0, .int .i64 0, .int .i64 0, .int .i64 0, .int .i64 0, .int .i64 0, .int .i64 0, .int .i64 0, .int .i64 0, .int .i64 0, .int .i64 0, .int .i64 0, .int .i64 0, .int .i64 0, .int .i64 0, .int .i64 0] 102)).setCells w3.heap.size 0 (csI E) := ⟨_, rfl⟩
    have NSW : NumsAt W w3.heap.size E := by rw [hW]; exact NS.out
    have BSW : Bl w3 W := by rw [hW]; exact HBS.out
    have szW : W.heap.size = w3.heap.size + 1 := by rw [hW, hz]; simp
    have e0 := ((bcell BSW).1 _ _ hsw3).trans r0
    have e1 := ((bcell BSW).1 _ _ hsw3).trans r1
    clear hz hbS HBS r0 r1
    have hEl := EL.out
    have hue : u < E.length := by rw [hEl]; omega
    have q2 := NSW.cell u hue
    have hDu : dAt (distL N (revL L) t) u = E[u] := by
      rw [← ED.out]
      unfold dAt
      simp only [List.getD_eq_getElem?_getD]
      rw [List.getElem?_take, if_pos (by omega)]
      simp [hue]
    have HDU := Lib.hid hDu
    generalize E[u] = d at q2 HDU
    clear hDu
    rw [hW] at q2
    have u0 : (0 : Int) ≤ (u : Int) := by omega
    have u1 : (u : Int) < 24 := by omega
    by_cases hd : d < 0
    · have bd : decide (d < 0) = true := by simpa using hd
      have HP := Lib.hid (show pathL N L u t = [] from by
        unfold pathL
        rw [if_neg (by rw [HDU.out, Bool.and_eq_true]; intro h; have := of_decide_eq_true h.2; omega)])
      go_wp2_with (refine wpList_store_mid rfl 102 (.tmp 8) (.tmp 20) rfl w3.heap.size 0 (csI E).toArray rfl rfl ?c1 ?c2 (csI_one _) ?_)
      case c1 => simpa [csI_len, EL.out] using there_new w3 _
      case c2 => simpa [csI_len, EL.out] using size24
      rw [← hW]
      go_ret2
      exact ⟨_, by rw [HP.out]; rfl, by rw [HP.out]; exact OwnN.nil_ _ _, HB3.out.trans_ BSW⟩
    · have bd : decide (d < 0) = false := by simpa using hd
      have HP := Lib.hid (show pathL N L u t = (u : Int) :: stepsL L (distL N (revL L) t) t u from by
        unfold pathL
        rw [if_pos (by rw [HDU.out, Bool.and_eq_true]; exact ⟨HH.out, by simp; omega⟩)])
      have ST := Lib.hid (OnWay.start (L := L) (D := distL N (revL L) t) (t := t) (s := (u : Int)) (by rw [HDU.out]; omega))
      have hdb := (HET.out u).2
      have NW := Lib.hid (fun (v : Int) h0 h1 hv hd => nextL_some (L := L) (v := v) HO.out HE.out h0 h1 hv hd)
      have EB := Lib.hid (show ∀ k (h : k < E.length), (k : Int) < N → -1 ≤ E[k] ∧ E[k] ≤ 23000 from fun k hk hkN => by
        have h1 := HET.out k
        rw [← ED.out] at h1
        have h2 : dAt (E.take N.toNat) (k : Int) = E[k] := by
          unfold dAt
          simp only [List.getD_eq_getElem?_getD]
          rw [List.getElem?_take, if_pos (by omega)]
          simp [hk]
        rw [h2] at h1
        exact h1)
      have NXT := Lib.hid (fun (v : Int) (a : Arc3) (h : nextL L (distL N (revL L) t) v = some a) => (show nextL L (E.take N.toNat) v = some a from by rw [ED.out]; exact h))
      have hu1 := hs1
      generalize hDD : distL N (revL L) t = D at *
      have AA := Lib.hid (K1.out.bl (HB3.out.trans_ BSW))
      have BB := Lib.hid (HB3.out.trans_ BSW)
      have O0 := Lib.hid (show OwnN (W.alloc (.cells #[.int .i64 (u : Int)] 2)) (w3.heap.size + 1) (.slice (some ⟨w3.heap.size + 1, 0, none⟩) 1 1) [(u : Int)] from by
        rw [← szW]
        exact ⟨rfl, .inr ⟨W.heap.size, 1, #[.int .i64 (u : Int)], rfl, Nat.le_refl _, World.alloc_heap_new _ _, Nat.le_refl _, by unfold maxLen; omega, rfl, rfl⟩⟩)
      have BX := Lib.hid (show ∀ wx, Bl W wx → (wx.cell? ⟨w.heap.size, 0, none⟩ = some (.int .i64 N) ∧ wx.cell? ⟨w.heap.size, 1, none⟩ = some (.slice A n c)) ∧ NumsAt wx w3.heap.size E from fun wx hb => ⟨⟨((bcell hb).1 _ _ (by omega)).trans e0, ((bcell hb).1 _ _ (by omega)).trans e1⟩, NSW.bl hb⟩)
      clear e0 e1 HE HET HDU BSW NSW hDD hue hEl
      go_wp2_with (refine wpList_store_mid rfl 102 (.tmp 8) (.tmp 20) rfl w3.heap.size 0 (csI E).toArray rfl rfl ?c1 ?c2 (csI_one _) ?_)
      case c1 => simpa [csI_len, EL.out] using there_new w3 _
      case c2 => simpa [csI_len, EL.out] using size24
      rw [← hW]
      clear q2 hW NS
      go_loopw [9, 10] (fun pv vv wr => ∃ (P : List Int) (v : Int), (0 ≤ v ∧ v < N) ∧ vv = .int .i64 v ∧ OwnN wr (w3.heap.size + 1) pv P ∧ OnWay L D u t P v ∧ Bl W wr) (fun _ vv _ => (dAt D (intOf vv)).toNat)
      case atStart => exact ⟨[(u : Int)], u, ⟨by omega, hu1⟩, rfl, O0.out, ST.out, Bl.alloc_ (Bl.refl W) _⟩
      case round =>
        obtain ⟨P, v, ⟨hv0, hv1⟩, rfl, hO, hway, hbl⟩ := hrel
        have O := Lib.hid hO
        have WY := Lib.hid hway
        obtain ⟨⟨q0, q1⟩, hNS⟩ := BX.out _ hbl
        have NS := Lib.hid hNS
        have hPl : P.length ≤ 23001 := hway.len hdb
        clear hO hway hNS
        by_cases hvt : v = t
        · have bv : (v != t) = false := by simpa using hvt
          subst hvt
          go_wp2
          go_ret2
          refine ⟨u9, ?_, ?_, BB.out.trans_ hbl⟩
          · rw [HP.out]; rfl
          · rw [HP.out, ← WY.out.done]; exact O.out.low (by have := BB.out.size; omega)
        · have bv : (v != t) = true := by simpa using hvt
          obtain ⟨a, hnx, haL, ha1, hap, has, ha0, haN, hal⟩ := NW.out v hv0 hv1 hvt WY.out.far
          have NX := Lib.hid hnx
          have WY2 := Lib.hid (WY.out.next hvt hnx hap hal)
          have LT := Lib.hid hal
          clear hnx haL ha1 hap has hal
          go_wp2_with (refine wpList_load_mid rfl 102 (.tmp 8) rfl w3.heap.size 0 rfl (csI E) _ NS.out.range Try.underlying102 rfl (by rw [csI_len, EL.out]; exact size24) ?_)
          refine (nextNode_any N v A n c L HN.out hc HO.out E EL.out EB.out hv0 hv1 a (NXT.out v a NX.out) _ hm (AA.out.bl hbl)).mono ?_
          rintro e w7 ⟨rfl, hb7⟩
          have O7 := Lib.hid (O.out.bl hb7)
          have B7 := Lib.hid (hbl.trans_ hb7)
          have hs7 := B7.out.size
          clear hb7 q0 q1 hbl
          generalize hya : a.2.1 = y at *
          have YA := Lib.hid hya
          clear hya
          go_wp2_with (at_builtin; refine wpList_append_any _ rfl (.tmp 35) (.tmp 37) _ rfl (w3.heap.size + 1) 2 i0 _ 1 8 Try.underlying29 I0.out I1.out I2.out I3.out rfl (by decide) _ P.length (csI P) rfl (World.ownsRow.alloc O7.out _) (w7.heap.size + 1) (some ⟨w7.heap.size, 0, none⟩) 1 1 [.int .i64 y] rfl ?c0 (by simp [Value.oneCell']) ?c3 ?c4 ?c5 ?_)
          case c0 =>
            refine ⟨rfl, fun _ => ⟨_, rfl, by show w7.heap.size < w7.heap.size + 1; omega, fun x u hj => ?_⟩⟩
            match x, hj with
            | 0, hj => simp at hj; subst hj; simp [Addr.add, go_sem]
            | (x + 1), hj => simp at hj
          case c3 => unfold maxLen; omega
          case c4 => omega
          case c5 => simp; omega
          intro v' w8 hown' hgrow hwh
          have O8 := Lib.hid (OwnN.snoc (V := P) (x := y) (n := P.length) rfl (by simpa using hown'))
          have B8 := Lib.hid (show Bl W w8 from (B7.out.alloc_ (.cells #[.int .i64 y] 2)).grown_ hgrow (fun g hg => by have := (Owns.lt O7.out g hg).1; omega))
          clear hown' hgrow hwh
          go_wp2
          go_roundw
          case rel => exact ⟨P ++ [y], y, ⟨ha0, haN⟩, rfl, O8.out, WY2.out, B8.out⟩
          case measure =>
            have h1 := LT.out
            have h2 := WY2.out.far
            simp only [intOf]
            omega

end Go.Proofs.Ytgjgcdpjbpccnaa

set_option linter.unusedSimpArgs false
set_option linter.unusedVariables false
namespace Go.Proofs.Ytgjgcdpjbpccnaa
open Go.RowKit

set_option maxRecDepth 100000 in
set_option maxHeartbeats 2000000 in
theorem specPathOf_any (N s t : Int) (A : Option Addr) (n c : Nat) (L : List Arc3) (hn : n = L.length) (w : World) (hm : n ≤ 1048576) (H1 : ArcsAt w w.heap.size A L) :
    Calls Try.prog 20 #[.agg #[.int .i64 N, .slice A n c], .int .i64 s, .int .i64 t] w (PathMade (pathL N L s t) w) := by
  have K1 := Lib.hid H1
  have HN := Lib.hid hn
  have BX := Lib.hid (show ∀ wx, Bl (w.alloc (.cells #[.int .i64 N, .slice A n c] 26)) wx → wx.cell? ⟨w.heap.size, 0, none⟩ = some (.int .i64 N) ∧ wx.cell? ⟨w.heap.size, 1, none⟩ = some (.slice A n c) from fun wx hb => box2 hb)
  have BW := Lib.hid (show ∀ wx, Bl (w.alloc (.cells #[.int .i64 N, .slice A n c] 26)) wx → Bl w wx from fun wx hb => (Bl.alloc_ (Bl.refl w) _).trans_ hb)
  clear H1 hn
  cases ho : okB N L with
  | false =>
    have HO := Lib.hid ho
    have HP := Lib.hid (pathL_none (N := N) (L := L) (s := s) (t := t) (by unfold has2; rw [ho]; rfl))
    clear ho
    go_enter Try.func20, Try.ntmps20
    go_wp2_with fail
    refine (specOk_any N A n c L HN.out _ (by omega) (K1.out.bl (by repeat' (first | exact Bl.refl _ | with_reducible assumption | with_reducible refine Bl.drew_ ?_ | with_reducible refine Bl.drewN_ ?_ _ | with_reducible refine Bl.alloc_ ?_ _ | with_reducible refine Bl.trans_ ?_ (by assumption) | with_reducible refine Bl.trans_ ?_ (And.left (by assumption)))))).mono ?_
    rintro e w1 ⟨rfl, hb1⟩
    rw [HO.out]
    go_wp2
    go_ret2
    exact ⟨_, by rw [HP.out]; rfl, by rw [HP.out]; exact OwnN.nil_ _ _, BW.out _ hb1⟩
  | true =>
    have HO := Lib.hid ho
    have HNS := Lib.hid (nodeB_ok (v := s) ho)
    have HNT := Lib.hid (nodeB_ok (v := t) ho)
    by_cases hs : 0 ≤ s ∧ s < N
    · have hsd : decide (0 ≤ s ∧ s < N) = true := by simpa using hs
      have HS := Lib.hid hsd
      by_cases ht : 0 ≤ t ∧ t < N
      · have htd : decide (0 ≤ t ∧ t < N) = true := by simpa using ht
        have HT := Lib.hid htd
        have HH := Lib.hid (show has2 N L s t = true from by unfold has2; rw [ho, Bool.true_and, decide_eq_true_eq]; exact ⟨hs, ht⟩)
        clear hsd htd ho
        go_enter Try.func20, Try.ntmps20
        go_wp2_with fail
        refine (specOk_any N A n c L HN.out _ (by omega) (K1.out.bl (by repeat' (first | exact Bl.refl _ | with_reducible assumption | with_reducible refine Bl.drew_ ?_ | with_reducible refine Bl.drewN_ ?_ _ | with_reducible refine Bl.alloc_ ?_ _ | with_reducible refine Bl.trans_ ?_ (by assumption) | with_reducible refine Bl.trans_ ?_ (And.left (by assumption)))))).mono ?_
        rintro e w1 ⟨rfl, hb1⟩
        rw [HO.out]
        obtain ⟨q0, q1⟩ := BX.out _ hb1
        go_wp2_with fail
        refine (l1Node_any N s _ _).mono ?_
        rintro e w2 ⟨rfl, hb2⟩
        rw [HNS.out, HS.out]
        have hb2 := hb1.trans_ hb2
        obtain ⟨q0, q1⟩ := BX.out _ hb2
        go_wp2_with fail
        refine (l1Node_any N t _ _).mono ?_
        rintro e w3 ⟨rfl, hb3⟩
        rw [HNT.out, HT.out]
        have hb3 := hb2.trans_ hb3
        obtain ⟨q0, q1⟩ := BX.out _ hb3
        go_wp2_with fail
        refine (l3Path_any N s t A n c L HN.out HH.out _ hm (K1.out.bl (BW.out _ hb3))).mono ?_
        rintro e w4 ⟨v, rfl, hv, hb4⟩
        obtain ⟨A4, c4, rfl, -⟩ := OwnN.shape hv
        have O4 := Lib.hid hv
        have hl := pathL_len N L s t
        generalize hP : pathL N L s t = P at *
        obtain ⟨k, hk⟩ : ∃ k, k = P.length := ⟨_, rfl⟩
        rw [← hk]
        have HK := Lib.hid hk
        have B4 := Lib.hid (hb3.trans_ hb4)
        have HB3 := Lib.hid hb3
        clear hv hk hb1 hb2 hb3 hb4 hP
        have O4' := Lib.hid (show OwnN w4 w3.heap.size (.slice A4 k c4) P from by rw [HK.out]; exact O4.out)
        have hs3 : w.heap.size ≤ w3.heap.size := by
          have h1 := (BW.out _ HB3.out).size
          exact h1
        go_wp2
        go_ret2
        refine ⟨.slice A4 k c4, ?_, O4'.out.low hs3, BW.out _ B4.out⟩
        rw [← HK.out]
        simp
      · have htd : decide (0 ≤ t ∧ t < N) = false := by simpa using ht
        have HT := Lib.hid htd
        have HP := Lib.hid (pathL_none (N := N) (L := L) (s := s) (t := t) (by unfold has2; rw [ho, Bool.true_and, decide_eq_false_iff_not]; exact fun h => ht h.2))
        clear hsd htd
        go_enter Try.func20, Try.ntmps20
        go_wp2_with fail
        refine (specOk_any N A n c L HN.out _ (by omega) (K1.out.bl (by repeat' (first | exact Bl.refl _ | with_reducible assumption | with_reducible refine Bl.drew_ ?_ | with_reducible refine Bl.drewN_ ?_ _ | with_reducible refine Bl.alloc_ ?_ _ | with_reducible refine Bl.trans_ ?_ (by assumption) | with_reducible refine Bl.trans_ ?_ (And.left (by assumption)))))).mono ?_
        rintro e w1 ⟨rfl, hb1⟩
        rw [HO.out]
        obtain ⟨q0, q1⟩ := BX.out _ hb1
        go_wp2_with fail
        refine (l1Node_any N s _ _).mono ?_
        rintro e w2 ⟨rfl, hb2⟩
        rw [HNS.out, HS.out]
        have hb2 := hb1.trans_ hb2
        obtain ⟨q0, q1⟩ := BX.out _ hb2
        go_wp2_with fail
        refine (l1Node_any N t _ _).mono ?_
        rintro e w3 ⟨rfl, hb3⟩
        rw [HNT.out, HT.out]
        have hb3 := hb2.trans_ hb3
        go_wp2
        go_ret2
        exact ⟨_, by rw [HP.out]; rfl, by rw [HP.out]; exact OwnN.nil_ _ _, BW.out _ hb3⟩
    · have hsd : decide (0 ≤ s ∧ s < N) = false := by simpa using hs
      have HS := Lib.hid hsd
      have HP := Lib.hid (pathL_none (N := N) (L := L) (s := s) (t := t) (by unfold has2; rw [ho, Bool.true_and, decide_eq_false_iff_not]; exact fun h => hs h.1))
      clear hsd
      go_enter Try.func20, Try.ntmps20
      go_wp2_with fail
      refine (specOk_any N A n c L HN.out _ (by omega) (K1.out.bl (by repeat' (first | exact Bl.refl _ | with_reducible assumption | with_reducible refine Bl.drew_ ?_ | with_reducible refine Bl.drewN_ ?_ _ | with_reducible refine Bl.alloc_ ?_ _ | with_reducible refine Bl.trans_ ?_ (by assumption) | with_reducible refine Bl.trans_ ?_ (And.left (by assumption)))))).mono ?_
      rintro e w1 ⟨rfl, hb1⟩
      rw [HO.out]
      obtain ⟨q0, q1⟩ := BX.out _ hb1
      go_wp2_with fail
      refine (l1Node_any N s _ _).mono ?_
      rintro e w2 ⟨rfl, hb2⟩
      rw [HNS.out, HS.out]
      have hb2 := hb1.trans_ hb2
      go_wp2
      go_ret2
      exact ⟨_, by rw [HP.out]; rfl, by rw [HP.out]; exact OwnN.nil_ _ _, BW.out _ hb2⟩

end Go.Proofs.Ytgjgcdpjbpccnaa
