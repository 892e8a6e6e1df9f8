/-
  What is proved here: the same, where behind the last operation of the region the condition need not be shown; the code's ReachOf; a graph and reaches that are drawn by a code; the code's ReachOk. No conditions beyond those that each theorem states.
-/
import Derived.Test.YtpbgnidjgmmebaaTG16
import Derived.Test.YtpbgnidjgmmebaaTSP
import Derived.Test.YtpbgnidjgmmebaaTG13
import Derived.Test.YtpbgnidjgmmebaaTG12
import Derived.Lib.MinMax
import Derived.Test.YtpbgnidjgmmebaaTG15
set_option linter.unusedSimpArgs false
set_option linter.unusedVariables false
namespace Go.Proofs.Ytpbgnidjgmmebaa
open Go.RowKit

section
variable {F : Fence} {n : Nat} {P : Program} {ops : Array Oper} {Q : Exit → Act → World → Prop} {md : Region.Mode} {S : World → Prop} {k : Nat}

/-- Does an operation wait for all others? -/
def lastB (md : Region.Mode) (ops : Array Oper) (k : Nat) : Bool := (List.range ops.size).all fun j => j == k || (match ops[k]? with | some o => o.after.any fun e => Region.binds md e && e.on == j | none => false)
theorem lastB_spec {j : Nat} {o : Oper} (h : lastB md ops k = true) (ho : ops[k]? = some o) (hj : j < ops.size) (hne : j ≠ k) : ∃ e ∈ o.after, Region.binds md e = true ∧ e.on = j := by
  unfold lastB at h
  rw [List.all_eq_true] at h
  have h1 := h j (List.mem_range.2 hj)
  rw [ho] at h1
  rw [Bool.or_eq_true] at h1
  rcases h1 with h1 | h1
  · exact absurd (by simpa using h1) hne
  · obtain ⟨i, hi, h2⟩ := Array.any_eq_true.1 h1
    rw [Bool.and_eq_true] at h2
    exact ⟨_, Array.getElem_mem hi, h2.1, by simpa using h2.2⟩
theorem ops_lt {i : Nat} {o : Oper} (h : ops[i]? = some o) : i < ops.size := (Array.getElem?_eq_some_iff.1 h).1

/-- Whatever order is picked from here on, and S holds behind every operation that is carried out. -/
def wpAnyHK (F : Fence) (n : Nat) (P : Program) (md : Region.Mode) (ops : Array Oper) (Q : Exit → Act → World → Prop) (S : World → Prop) (k : Nat) : Nat → Array Bool → Act → World → Prop
  | 0, listed, a, w => Region.ready md ops listed = [] ∧ Q .normal a w
  | fuel + 1, listed, a, w =>
    (Region.ready md ops listed = [] → Q .normal a w) ∧
    ∀ i ∈ Region.ready md ops listed, wpOpIn F n P ops Q i (fun a' w' => (i ≠ k → S w') ∧ wpAnyHK F n P md ops Q S k fuel (listed.setIfInBounds i true) a' w') a w

theorem wpAnyIn_of_heldK : ∀ (fuel : Nat) (listed : Array Bool) (a : Act) (w : World), wpAnyHK F n P md ops Q S k fuel listed a w → wpAnyIn F n P md ops Q fuel listed a w
  | 0, _, _, _, h => h
  | fuel + 1, _, _, _, h => ⟨h.1, fun i hi => wpOpIn_mono (fun a' w' h' => wpAnyIn_of_heldK fuel _ a' w' h'.2) (h.2 i hi)⟩

theorem wpAnyHK_first {i : Nat} {oi : Oper} {v : Value} (hd : noDefer ops = true) (hl : lastB md ops k = true) (hi : ops[i]? = some oi) (hsel : ∀ (j : Nat) (o : Oper) cs b, ops[j]? = some o → o.op ≠ .select cs b)
    (hQ : ∀ c a w, Q (.panic c) (a.put oi.dst v) w → Q (.panic c) a w) :
    ∀ (fuel : Nat) (listed : Array Bool) (a : Act) (w : World),
      (∀ j oj, ops[j]? = some oj → j ≠ i → listed.getD j true = false → (∀ e ∈ oj.after, Region.binds md e = true → e.on ≠ i) → oi.apart ops oj = true) →
      i ∈ Region.ready md ops listed → YieldsF P ops S oi v a → S w →
      wpAnyHK F n P md ops Q S k fuel (listed.setIfInBounds i true) (a.put oi.dst v) w → wpAnyHK F n P md ops Q S k (fuel + 1) listed a w := by
  intro fuel
  induction fuel with
  | zero =>
    intro listed a w _ hr hy hS H
    refine ⟨fun h => (by rw [h] at hr; cases hr), fun j hj => ?_⟩
    by_cases hji : j = i
    · subst hji; exact hy.wpOpIn hd hi hS ⟨fun _ => hS, H⟩
    · have := ready_mono hj hji
      rw [H.1] at this
      cases this
  | succ fuel ih =>
    intro listed a w hfree hr hy hS H
    refine ⟨fun h => (by rw [h] at hr; cases hr), fun j hj => ?_⟩
    by_cases hji : j = i
    · subst hji; exact hy.wpOpIn hd hi hS ⟨fun _ => hS, H⟩
    · have h1 := H.2 j (ready_mono hj hji)
      obtain ⟨hjun, oj, hoj, hall⟩ := mem_ready.1 hj
      have hnot : ∀ e ∈ oj.after, Region.binds md e = true → e.on ≠ i := fun e he hb heq => by
        have h1 := hall e he hb
        have h0 := (mem_ready.1 hr).1
        rw [heq] at h1
        rcases Nat.lt_or_ge i listed.size with h' | h'
        · simp [h'] at h0 h1; rw [h0] at h1; cases h1
        · simp [Array.getElem?_eq_none h'] at h1
      have h2 := wpOpIn_putF hd hoj (hfree j oj hoj hji hjun hnot) (fun cs b => hsel i oi cs b hi) (fun cs b => hsel j oj cs b hoj) hQ hy h1
      have hfree' : ∀ k ok, ops[k]? = some ok → k ≠ i → (listed.setIfInBounds j true).getD k true = false →
          (∀ e ∈ ok.after, Region.binds md e = true → e.on ≠ i) → oi.apart ops ok = true := fun k ok hk hki hun hno => by
        refine hfree k ok hk hki ?_ hno
        by_cases hjk : j = k
        · subst hjk; exact hjun
        · rw [getD_set_ne true hjk] at hun; exact hun
      have hjk : j ≠ k := fun e => by
        subst e
        obtain ⟨e, he, hb, heq⟩ := lastB_spec hl hoj (ops_lt hi) (Ne.symm hji)
        exact hnot e he hb heq
      refine wpOpIn_mono (fun a' w' h3 => ⟨fun _ => h3.2.1 hjk, ih (listed.setIfInBounds j true) a' w' hfree' (ready_mono hr (Ne.symm hji)) h3.1 (h3.2.1 hjk) ?_⟩) h2
      rw [Array.setIfInBounds_comm _ _ hji]
      exact h3.2.2

theorem wpAnyHK_take {i : Nat} {oi : Oper} {v : Value} {fuel : Nat} {listed : Array Bool} {a : Act} {w : World} (hd : noDefer ops = true) (hl : lastB md ops k = true) (hi : ops[i]? = some oi)
    (hs : Region.noSelect ops = true) (hf : Region.free md ops listed i = true) (hr : (Region.ready md ops listed).contains i = true)
    (hQ : ∀ c a w, Q (.panic c) (a.put oi.dst v) w → Q (.panic c) a w) (hy : YieldsIf P ops S oi v a) (hb : ∀ w, oi.about P w a.eval = none) (hS : S w)
    (h : wpAnyHK F n P md ops Q S k fuel (listed.setIfInBounds i true) (a.put oi.dst v) w) : wpAnyHK F n P md ops Q S k (fuel + 1) listed a w :=
  wpAnyHK_first hd hl hi (Region.noSelect_spec hs) hQ fuel listed a w (Region.free_spec hi hf) (by simpa using hr) ⟨hy, hb⟩ hS h

theorem wpAnyHK_done {listed : Array Bool} {a : Act} {w : World} (hr : Region.ready md ops listed = []) (h : Q .normal a w) :
    ∀ fuel, wpAnyHK F n P md ops Q S k fuel listed a w
  | 0 => ⟨hr, h⟩
  | _ + 1 => ⟨fun _ => h, by rw [hr]; simp⟩

def AllReadyHK (F : Fence) (n : Nat) (P : Program) (md : Region.Mode) (ops : Array Oper) (Q : Exit → Act → World → Prop) (S : World → Prop) (k : Nat) (fuel : Nat) (listed : Array Bool) (a : Act) (w : World) (rs : List Nat) : Prop :=
  ∀ i ∈ rs, wpOpIn F n P ops Q i (fun a' w' => (i ≠ k → S w') ∧ wpAnyHK F n P md ops Q S k fuel (listed.setIfInBounds i true) a' w') a w
theorem AllReadyHK.nil {fuel : Nat} {listed : Array Bool} {a : Act} {w : World} : AllReadyHK F n P md ops Q S k fuel listed a w [] := fun _ h => by cases h
theorem AllReadyHK.cons {fuel : Nat} {listed : Array Bool} {a : Act} {w : World} {i : Nat} {o : Oper} {rs : List Nat} (ho : ops[i]? = some o)
    (h : ∀ K' : Act → World → Prop, Shut (∀ a w, S w → (S w → wpAnyHK F n P md ops Q S k fuel (listed.setIfInBounds i true) a w) → K' a w) → if Region.wanted o (yielded ops a.tmps) = true then Oper.wpIn F n P o a w K' Q else (∀ f, o.about P w a.eval = some f → F.fn f) ∧ K' (a.put o.dst undef) w)
    (hs : AllReadyHK F n P md ops Q S k fuel listed a w rs) : AllReadyHK F n P md ops Q S k fuel listed a w (i :: rs) := fun j hj => by
  rcases List.mem_cons.1 hj with rfl | hj
  · exact wpOpIn_step ho (fun K' hK => h K' (fun a w hS hW => hK a w ⟨fun _ => hS, hW hS⟩))
  · exact hs j hj
theorem AllReadyHK.last {fuel : Nat} {listed : Array Bool} {a : Act} {w : World} {o : Oper} (ho : ops[k]? = some o)
    (h : ∀ K' : Act → World → Prop, Shut (∀ a w, wpAnyHK F n P md ops Q S k fuel (listed.setIfInBounds k true) a w → K' a w) → if Region.wanted o (yielded ops a.tmps) = true then Oper.wpIn F n P o a w K' Q else (∀ f, o.about P w a.eval = some f → F.fn f) ∧ K' (a.put o.dst undef) w) : AllReadyHK F n P md ops Q S k fuel listed a w [k] := fun j hj => by
  obtain rfl : j = k := by simpa using hj
  exact wpOpIn_step ho (fun K' hK => h K' (fun a w hW => hK a w ⟨fun h => absurd rfl h, hW⟩))
theorem wpAnyHK_ready {rs : List Nat} {fuel : Nat} {listed : Array Bool} {a : Act} {w : World} (hr : Region.ready md ops listed = rs) (hne : rs ≠ [])
    (h : AllReadyHK F n P md ops Q S k fuel listed a w rs) : wpAnyHK F n P md ops Q S k (fuel + 1) listed a w :=
  ⟨fun h0 => absurd (hr ▸ h0) hne, hr ▸ h⟩
theorem wpIn_region_heldK (k : Nat) {id : Nat} {a : Act} {w : World} (hm : P.follows .mixedOrders = true) (hS : S w.drew)
    (h : S w.drew → wpAnyHK F n P .any ops Q S k ops.size (Array.replicate ops.size false) a w.drew) : (Code.region id ops true).wpIn F n P Q a w :=
  wpIn_region_any hm (wpAnyIn_of_heldK _ _ _ _ (h hS))
end

end Go.Proofs.Ytpbgnidjgmmebaa

set_option linter.unusedSimpArgs false
set_option linter.unusedVariables false
namespace Go.Proofs.Ytpbgnidjgmmebaa
open Go.RowKit Go.Shelf
attribute [local go_sem] Oper.semAt_some

set_option maxHeartbeats 400000 in
theorem lesser_any (x y z : Int) (w : World) :
    Calls Try.prog 89 #[.agg #[.int .i64 x, .int .i64 y, .int .i64 z]] w fun e w' => e = .returned (.int .i64 (min y z)) ∧ Bl w w' := by
  go_enter Try.func89, Try.ntmps89
  go_wp2
  go_ret
  exact ⟨rfl, (by repeat' (first | exact Bl.refl _ | with_reducible assumption | with_reducible refine Bl.drew_ ?_ | with_reducible refine Bl.drewN_ ?_ _ | with_reducible refine Bl.alloc_ ?_ _ | with_reducible refine Bl.trans_ ?_ (by assumption) | with_reducible refine Bl.trans_ ?_ (And.left (by assumption))))⟩

theorem OwnN.put_ {w : World} {B g n c : Nat} {V : List Int} (h : OwnN w B (.slice (some ⟨g, 0, none⟩) n c) V) (hn : n = V.length) (d : Nat) (x : Int) : OwnN (w.setCell ⟨g, d, none⟩ (.int .i64 x)) B (.slice (some ⟨g, 0, none⟩) n c) (V.set d x) := by
  subst hn
  have h1 := (Owns.stored (show Owns 2 1 w B (.slice (some ⟨g, 0, none⟩) V.length c) V.length (csI V) from h) d (.int .i64 x)).1
  have e : (csI V).set d (.int .i64 x) = csI (V.set d x) := by simp [csI, List.map_set]
  rw [e] at h1
  unfold OwnN
  rw [List.length_set]
  exact h1
theorem OwnN.turn_ {w w' : World} {B : Nat} {v : Value} {V : List Int} {S : Nat → Prop} (h : OwnN w B v V) (k : Turn S w w') (hS : ∀ g, v.ownBlock = some g → ¬ S g) : OwnN w' B v V := Owns.turn h k hS
theorem OwnN.cell_ {w : World} {B g n c : Nat} {V : List Int} (h : OwnN w B (.slice (some ⟨g, 0, none⟩) n c) V) (hn : n = V.length) {d : Nat} (hd : d < V.length) : w.cell? ⟨g, d, none⟩ = some (.int .i64 V[d]) ∧ w.frozen? ⟨g, d, none⟩ = false ∧ g < w.heap.size := by
  subst hn
  have h' : w.ownsRow B 2 1 (.slice (some ⟨g, 0, none⟩) V.length c) V.length (csI V) := h
  refine ⟨?_, World.ownsRow.frozenAt h' d, (Owns.lt h g rfl).2⟩
  rw [World.ownsRow.cellAt h' d (by rw [Nat.mul_one]; exact hd), List.getElem?_eq_getElem (by rw [csI_len]; exact hd), csI_at]

theorem mk1_list (n : Nat) : mk1 n = (csI (List.replicate n 0)).toArray := by
  refine Array.ext (by simp [size_mk1, csI_len]) fun i h1 h2 => ?_
  unfold mk1
  simp [csI, madeCells, Nat.mod_one]
theorem own_zeros (w : World) (B n : Nat) (hB : B ≤ w.heap.size) (hn : n ≤ 1048576) : OwnN (w.alloc (.cells (mk1 n) 2)) B (.slice (some ⟨w.heap.size, 0, none⟩) n n) (List.replicate n 0) := by
  have hl : (mk1 n).size = n * 1 := by rw [size_mk1, Nat.mul_one]
  refine ⟨by simp [csI_len], .inr ⟨w.heap.size, n, mk1 n, by simp, hB, ?_, by simp, by unfold maxLen; omega, hl, ?_⟩⟩
  · exact World.alloc_heap_new w _
  · rw [mk1_list]
    simp [csI_len, List.take_of_length_le]

set_option maxHeartbeats 400000 in
theorem shortest_any (N : Int) (A : Option Addr) (n c : Nat) (w : World) :
    Calls Try.prog 88 #[.agg #[.int .i64 N, .slice A n c]] w fun e w' => e = .returned (.func (.func 105) #[] #[.pointer (some ⟨w.heap.size, 0, none⟩)]) ∧ w' = w.alloc (.cells #[.int .i64 N, .slice A n c] 26) := by
  go_enter Try.func88, Try.ntmps88
  go_wp2
  go_ret
  exact ⟨rfl, rfl⟩

set_option maxRecDepth 100000 in
set_option maxHeartbeats 4000000 in
theorem implReachOf_any (N : Int) (A : Option Addr) (n c : Nat) (L : List Arc3) (hn : n = L.length) (hc : n ≤ c) (w : World) (hm : n ≤ 1048576) (H1 : ArcsAt w w.heap.size A L) :
    Calls Try.prog 53 #[.agg #[.int .i64 N, .slice A n c]] w (NumsMade (reachL N L) w) := by
  have K1 := Lib.hid H1
  have HN := Lib.hid hn
  clear H1 hn
  cases ho : okB N L with
  | false =>
    have HO := Lib.hid ho
    clear ho
    refine (callsIn_wide (n := 0)).1 ?_
    refine callsIn_of_wp_marks Try.func53 rfl trivial ?_ rfl
    simp only [Try.ntmps53, List.size_toArray, List.length_cons, List.length_nil, Nat.reduceAdd, Nat.reduceSub, Array.replicate_succ, Array.replicate_zero, List.push_toArray, List.append_toArray, List.nil_append, List.cons_append]
    gi_wp2_with fail
    refine ⟨trivial, rfl, CallsIn.mono (callsIn_wide.2 (implOk_any N A n c L HN.out _ (by omega) (K1.out.bl (by repeat' (first | exact Bl.refl _ | with_reducible assumption | with_reducible refine Bl.drew_ ?_ | with_reducible refine Bl.drewN_ ?_ _ | with_reducible refine Bl.alloc_ ?_ _ | with_reducible refine Bl.trans_ ?_ (by assumption) | with_reducible refine Bl.trans_ ?_ (And.left (by assumption))))))) ?_⟩
    rintro e w1 ⟨rfl, hb1⟩
    rw [HO.out]
    gi_wp2_with fail
    refine leaves_marks [] [] _ (MarksD.nil_ _) fun w' t' => ?_
    refine ⟨_, by simp [results, Try.results53, go_sem]; rfl, ?_⟩
    refine ⟨_, rfl, by unfold reachL; rw [HO.out, if_neg (by simp)]; exact OwnN.nil_ _ _, Turn.to_bl ((Bl.alloc_ (Bl.refl w) _).trans_ hb1) t' (fun i hi => by simp at hi)⟩
  | true =>
    have HO := Lib.hid ho
    have hN1 := (okB_elim ho).1
    have hN24 := (okB_elim ho).2.1
    clear ho
    obtain ⟨q, rfl⟩ : ∃ q : Nat, N = q := ⟨N.toNat, by omega⟩
    have hmk := make_nums q (by omega)
    refine (callsIn_wide (n := 0)).1 ?_
    refine callsIn_of_wp_marks Try.func53 rfl trivial ?_ rfl
    simp only [Try.ntmps53, List.size_toArray, List.length_cons, List.length_nil, Nat.reduceAdd, Nat.reduceSub, Array.replicate_succ, Array.replicate_zero, List.push_toArray, List.append_toArray, List.nil_append, List.cons_append]
    gi_wp2_with fail
    refine ⟨trivial, rfl, CallsIn.mono (callsIn_wide.2 (implOk_any q A n c L HN.out _ (by omega) (K1.out.bl (by repeat' (first | exact Bl.refl _ | with_reducible assumption | with_reducible refine Bl.drew_ ?_ | with_reducible refine Bl.drewN_ ?_ _ | with_reducible refine Bl.alloc_ ?_ _ | with_reducible refine Bl.trans_ ?_ (by assumption) | with_reducible refine Bl.trans_ ?_ (And.left (by assumption))))))) ?_⟩
    rintro e w1 ⟨rfl, hb1⟩
    rw [HO.out]
    obtain ⟨q0, q1⟩ := box2 hb1
    have hsw : w.heap.size < w1.heap.size := by have := hb1.size; simp at this; omega
    have BW := Lib.hid (show Bl w w1 from (Bl.alloc_ (Bl.refl w) _).trans_ hb1)
    have OWN0 := Lib.hid (own_zeros w1 w.heap.size q BW.out.size (by omega))
    clear hb1
    gi_wp2_with fail
    refine ⟨trivial, rfl, CallsIn.mono (callsIn_wide.2 (shortest_any q A n c _)) ?_⟩
    rintro e w6 ⟨rfl, hw6⟩
    have HW6 := Lib.hid hw6
    clear hw6 hmk
    gi_wp2_with fail
    have hs6 : w6.heap.size = w1.heap.size + 3 := by rw [HW6.out]; simp
    have BX : Bl (w1.alloc (.cells (mk1 q) 2)) w6 := by rw [HW6.out]; exact ((Bl.refl _).alloc_ _).alloc_ _
    have BW6 := Lib.hid (show Bl w w6 from (BW.out.alloc_ _).trans_ BX)
    have O6 : OwnN w6 w.heap.size (.slice (some ⟨w1.heap.size, 0, none⟩) q q) (reachS q []) := by rw [reachS_nil]; exact OWN0.out.bl BX
    have V6 : w6.cell? ⟨w1.heap.size + 1, 0, none⟩ = some (.slice (some ⟨w1.heap.size, 0, none⟩) q q) := by rw [HW6.out]; simp [go_sem]
    have hin : SIn w6 (w1.heap.size + 2) q A n c L := by
      refine ⟨?_, ?_, K1.out.bl BW6.out⟩ <;> (rw [HW6.out]; simp [go_sem])
    clear BX q0 q1 OWN0
    refine wpIn_range (gf := 105) (lb := #[.pointer (some ⟨w1.heap.size + 2, 0, none⟩)]) ?e1 ?e2
      (short_stops q A n c (w1.heap.size + 2) L HN.out hc hm HO.out w6 hin) (Bl.refl _) (fun i hi => sBlocks_lt hin hi) ?e3
      (fun pre K W' => (∀ i, K i ↔ (i = w1.heap.size ∨ i = w1.heap.size + 1)) ∧ OwnN W' w.heap.size (.slice (some ⟨w1.heap.size, 0, none⟩) q q) (reachS q pre) ∧ W'.cell? ⟨w1.heap.size + 1, 0, none⟩ = some (.slice (some ⟨w1.heap.size, 0, none⟩) q q))
      (fun _ _ _ _ => False)
      (fun pre x a K W' => ∃ xb : Nat, ∃ z0 z1 z2 z5 z6 z7 z8 z9 z10 z11 z12 z13 z14 z15 z16 z17 z18 z19 z20 z21 z22 z23 z24 z25 z26 : Value, (∀ i, K i ↔ (i = w1.heap.size ∨ i = w1.heap.size + 1 ∨ i = xb)) ∧ OwnN W' w.heap.size (.slice (some ⟨w1.heap.size, 0, none⟩) q q) (reachS q pre) ∧ W'.cell? ⟨w1.heap.size + 1, 0, none⟩ = some (.slice (some ⟨w1.heap.size, 0, none⟩) q q) ∧
        ((xb ≠ w1.heap.size ∧ xb ≠ w1.heap.size + 1) ∧ W'.cell? ⟨xb, 0, none⟩ = some (.int .i64 x.1) ∧ W'.cell? ⟨xb, 1, none⟩ = some (.int .i64 x.2.1) ∧ W'.cell? ⟨xb, 2, none⟩ = some (.int .i64 x.2.2)) ∧ a = { tmps := #[z0, z1, z2, .pointer (some ⟨w1.heap.size + 1, 0, none⟩), .pointer (some ⟨xb, 0, none⟩), z5, z6, z7, z8, z9, z10, z11, z12, z13, z14, z15, z16, z17, z18, z19, z20, z21, z22, z23, z24, z25, z26], defers := [] })
      (fun i => i = w1.heap.size ∨ i = w1.heap.size + 1) ?hK0 ?hI (fun _ _ _ _ _ h _ => h) ?hM ?hlt ⟨fun i => Iff.rfl, O6, V6⟩ ?assign ?body ?done (fun _ _ _ _ _ _ _ h _ _ _ => h.elim)
    case e1 => rfl
    case e2 => exact enters_of Try.func105 (by kernel_rfl) rfl
    case e3 => exact fun x => rfl
    case hK0 =>
      rintro i hi (h | ⟨hl, h⟩)
      · omega
      · obtain ⟨g, off, rfl, hg, -⟩ := K1.out hl
        have : g = i := by simpa [blockOf] using h
        omega
    case hI =>
      rintro pre K X Y ⟨hk, ho, hv⟩ ht
      exact ⟨hk, ho.turn_ ht (fun g hg h => h ((hk g).2 (.inl (by simpa [Value.ownBlock] using hg.symm)))), (ht.cells (World.block_lt_of_cell? _ _ hv) (fun h => h ((hk _).2 (.inr rfl))) 0).1.trans hv⟩
    case hM =>
      rintro pre x a K X Y ⟨xb, z0, z1, z2, z5, z6, z7, z8, z9, z10, z11, z12, z13, z14, z15, z16, z17, z18, z19, z20, z21, z22, z23, z24, z25, z26, hk, ho, hv, ⟨hne, c0, c1, c2⟩, he⟩ ht
      have hx := World.block_lt_of_cell? _ _ c0
      have hs := fun o => (ht.cells hx (fun h => h ((hk _).2 (.inr (.inr rfl)))) o).1
      exact ⟨xb, z0, z1, z2, z5, z6, z7, z8, z9, z10, z11, z12, z13, z14, z15, z16, z17, z18, z19, z20, z21, z22, z23, z24, z25, z26, hk, ho.turn_ ht (fun g hg h => h ((hk g).2 (.inl (by simpa [Value.ownBlock] using hg.symm)))), (ht.cells (World.block_lt_of_cell? _ _ hv) (fun h => h ((hk _).2 (.inr (.inl rfl)))) 0).1.trans hv, ⟨hne, (hs 0).trans c0, (hs 1).trans c1, (hs 2).trans c2⟩, he⟩
    case hlt =>
      rintro pre K X ⟨hk, ho, hv⟩ i hi
      rcases (hk i).1 hi with rfl | rfl
      · exact (Owns.lt ho _ rfl).2
      · exact World.block_lt_of_cell? _ _ hv
    case assign =>
      rintro l pre ⟨x, y, z⟩ K X R ⟨hk, ho, hv⟩ hpre hR
      have KK9 := Lib.hid hk
      have OO9 := Lib.hid ho
      have VV9 := Lib.hid hv
      have HR := Lib.hid hR
      clear hk ho hv hpre hR hs6 O6 V6 hin
      dsimp only [encP]
      gi_wp2_with fail
      have h1 := (Owns.lt OO9.out _ rfl).2
      have h2 := World.block_lt_of_cell? _ _ VV9.out
      simp only at h2
      have BN : Bl X (X.alloc (.cells #[.int .i64 x, .int .i64 y, .int .i64 z] 90)) := Bl.alloc_ (Bl.refl X) _
      refine HR.out _ (fun i => i = w1.heap.size ∨ i = w1.heap.size + 1 ∨ i = X.heap.size) _ ⟨Turn.of_bl BN, fun i hi => ?_⟩ ⟨X.heap.size, _, _, _, _, _, _, _, _, _, _, _, _, _, _, _, _, _, _, _, _, _, _, _, _, _, fun i => Iff.rfl, OO9.out.bl BN, ((bcell BN).1 _ _ h2).trans VV9.out, ⟨⟨by omega, by omega⟩, by simp [go_sem], by simp [go_sem], by simp [go_sem]⟩, rfl⟩
      rcases hi with h | h | h
      · exact .inl ((KK9.out i).2 (.inl h))
      · exact .inl ((KK9.out i).2 (.inr h))
      · exact .inr (Nat.le_of_eq h.symm)
    case body =>
      rintro l pre ⟨x, y, z⟩ a₁ K X ⟨xb, z0, z1, z2, z5, z6, z7, z8, z9, z10, z11, z12, z13, z14, z15, z16, z17, z18, z19, z20, z21, z22, z23, z24, z25, z26, hk, ho, hv, ⟨hne, c0, c1, c2⟩, rfl⟩ ⟨Z, hZ⟩
      have hmem : (x, y, z) ∈ allS (q : Int) L (q : Int).toNat := by rw [hZ]; simp
      obtain ⟨s9, t9, hs9, ht9, hp9⟩ := mem_allS.1 hmem
      obtain ⟨⟨p0, p1⟩, -⟩ := mem_passK.1 (mem_selST.1 hp9).1
      simp only at p0 p1 c0 c1 c2
      obtain ⟨u, rfl⟩ : ∃ u : Nat, x = u := ⟨x.toNat, by omega⟩
      have hu : u < q := by simpa using p1
      have hu0 : (0 : Int) ≤ (u : Int) := by omega
      have hu1 : (u : Int) < (q : Int) := by omega
      have hrl := reachS_len q pre
      obtain ⟨d0, d1, d2⟩ := ho.cell_ hrl.symm (d := u) (by rw [hrl]; exact hu)
      have SN := Lib.hid (show reachS q (pre ++ [((u : Int), y, z)]) = (reachS q pre).set u (max ((reachS q pre)[u]'(by rw [hrl]; exact hu)) (min y z)) from by
        rw [reachS_snoc]
        simp [lessP, hrl, hu])
      generalize (reachS q pre)[u]'(by rw [hrl]; exact hu) = r at d0 SN
      have HRL := Lib.hid hrl
      have hxl := World.block_lt_of_cell? _ _ c0
      have hvl := World.block_lt_of_cell? _ _ hv
      simp only at hxl hvl
      have HSH := Lib.hid (show ∀ wx, Bl X wx → wx.cell? ⟨w1.heap.size + 1, 0, none⟩ = some (.slice (some ⟨w1.heap.size, 0, none⟩) q q) ∧ wx.cell? ⟨xb, 0, none⟩ = some (.int .i64 (u : Int)) ∧ wx.cell? ⟨xb, 1, none⟩ = some (.int .i64 y) ∧ wx.cell? ⟨xb, 2, none⟩ = some (.int .i64 z) ∧ wx.cell? ⟨w1.heap.size, u, none⟩ = some (.int .i64 r) from fun wx hb => by
        have h := (bcell hb).1
        exact ⟨(h _ _ hvl).trans hv, (h _ _ hxl).trans c0, (h _ _ hxl).trans c1, (h _ _ hxl).trans c2, (h _ _ d2).trans d0⟩)
      have KK9 := Lib.hid hk
      have OO9 := Lib.hid ho
      have VV9 := Lib.hid hv
      have FR9 := Lib.hid d1
      obtain ⟨hne1, hne2⟩ := hne
      clear hk ho hv hs6 O6 V6 hin hmem hs9 ht9 hp9 p0 p1 c0 c1 c2 d0 d1 hZ hrl
      gi_wp2_with fail
      refine wpIn_region_heldK (S := fun wx => wx.cell? ⟨w1.heap.size + 1, 0, none⟩ = some (.slice (some ⟨w1.heap.size, 0, none⟩) q q) ∧ wx.cell? ⟨xb, 0, none⟩ = some (.int .i64 (u : Int)) ∧ wx.cell? ⟨xb, 1, none⟩ = some (.int .i64 y) ∧ wx.cell? ⟨xb, 2, none⟩ = some (.int .i64 z) ∧ wx.cell? ⟨w1.heap.size, u, none⟩ = some (.int .i64 r)) 12 (by kernel_rfl) ?_ (fun hHeld => ?_)
      · (exact HSH.out _ (by repeat' (first | exact Bl.refl _ | with_reducible assumption | with_reducible refine Bl.drew_ ?_ | with_reducible refine Bl.drewN_ ?_ _ | with_reducible refine Bl.alloc_ ?_ _ | with_reducible refine Bl.trans_ ?_ (by assumption) | with_reducible refine Bl.trans_ ?_ (And.left (by assumption)))))
      refine wpAnyHK_take (i := 0) (v := ?_) (by kernel_rfl) (by kernel_rfl) rfl (by kernel_rfl) (by kernel_rfl) (by kernel_rfl) (fun _ _ _ h => h) (Or.inl ⟨by kernel_rfl, ?_⟩) (fun _ => rfl) (by assumption) ?_
      rotate_left
      · (intro wx hSw; (try dsimp only at hSw); go_simp; try (with_reducible rfl))
      try simp only [Act.put, List.getElem_toArray, List.getElem_cons_succ, List.getElem_cons_zero, List.setIfInBounds_toArray, List.set_cons_zero, List.set_cons_succ]
      refine wpAnyHK_take (i := 1) (v := ?_) (by kernel_rfl) (by kernel_rfl) rfl (by kernel_rfl) (by kernel_rfl) (by kernel_rfl) (fun _ _ _ h => h) (Or.inl ⟨by kernel_rfl, ?_⟩) (fun _ => rfl) (by assumption) ?_
      rotate_left
      · (intro wx hSw; (try dsimp only at hSw); go_simp; try (with_reducible rfl))
      try simp only [Act.put, List.getElem_toArray, List.getElem_cons_succ, List.getElem_cons_zero, List.setIfInBounds_toArray, List.set_cons_zero, List.set_cons_succ]
      refine wpAnyHK_take (i := 2) (v := ?_) (by kernel_rfl) (by kernel_rfl) rfl (by kernel_rfl) (by kernel_rfl) (by kernel_rfl) (fun _ _ _ h => h) (Or.inl ⟨by kernel_rfl, ?_⟩) (fun _ => rfl) (by assumption) ?_
      rotate_left
      · (intro wx hSw; (try dsimp only at hSw); go_simp; try (with_reducible rfl))
      try simp only [Act.put, List.getElem_toArray, List.getElem_cons_succ, List.getElem_cons_zero, List.setIfInBounds_toArray, List.set_cons_zero, List.set_cons_succ]
      refine wpAnyHK_take (i := 3) (v := ?_) (by kernel_rfl) (by kernel_rfl) rfl (by kernel_rfl) (by kernel_rfl) (by kernel_rfl) (fun _ _ _ h => h) (Or.inl ⟨by kernel_rfl, ?_⟩) (fun _ => rfl) (by assumption) ?_
      rotate_left
      · (intro wx hSw; (try dsimp only at hSw); go_simp; try (with_reducible rfl))
      try simp only [Act.put, List.getElem_toArray, List.getElem_cons_succ, List.getElem_cons_zero, List.setIfInBounds_toArray, List.set_cons_zero, List.set_cons_succ]
      refine wpAnyHK_take (i := 4) (v := ?_) (by kernel_rfl) (by kernel_rfl) rfl (by kernel_rfl) (by kernel_rfl) (by kernel_rfl) (fun _ _ _ h => h) (Or.inl ⟨by kernel_rfl, ?_⟩) (fun _ => rfl) (by assumption) ?_
      rotate_left
      · (intro wx hSw; (try dsimp only at hSw); go_simp; try (with_reducible rfl))
      try simp only [Act.put, List.getElem_toArray, List.getElem_cons_succ, List.getElem_cons_zero, List.setIfInBounds_toArray, List.set_cons_zero, List.set_cons_succ]
      refine wpAnyHK_take (i := 5) (v := ?_) (by kernel_rfl) (by kernel_rfl) rfl (by kernel_rfl) (by kernel_rfl) (by kernel_rfl) (fun _ _ _ h => h) (Or.inl ⟨by kernel_rfl, ?_⟩) (fun _ => rfl) (by assumption) ?_
      rotate_left
      · (intro wx hSw; (try dsimp only at hSw); go_simp; try (with_reducible rfl))
      try simp only [Act.put, List.getElem_toArray, List.getElem_cons_succ, List.getElem_cons_zero, List.setIfInBounds_toArray, List.set_cons_zero, List.set_cons_succ]
      refine wpAnyHK_take (i := 6) (v := ?_) (by kernel_rfl) (by kernel_rfl) rfl (by kernel_rfl) (by kernel_rfl) (by kernel_rfl) (fun _ _ _ h => h) (Or.inl ⟨by kernel_rfl, ?_⟩) (fun _ => rfl) (by assumption) ?_
      rotate_left
      · (intro wx hSw; (try dsimp only at hSw); go_simp; try (with_reducible rfl))
      try simp only [Act.put, List.getElem_toArray, List.getElem_cons_succ, List.getElem_cons_zero, List.setIfInBounds_toArray, List.set_cons_zero, List.set_cons_succ]
      refine wpAnyHK_take (i := 7) (v := ?_) (by kernel_rfl) (by kernel_rfl) rfl (by kernel_rfl) (by kernel_rfl) (by kernel_rfl) (fun _ _ _ h => h) (Or.inl ⟨by kernel_rfl, ?_⟩) (fun _ => rfl) (by assumption) ?_
      rotate_left
      · (intro wx hSw; (try dsimp only at hSw); go_simp; try (with_reducible rfl))
      try simp only [Act.put, List.getElem_toArray, List.getElem_cons_succ, List.getElem_cons_zero, List.setIfInBounds_toArray, List.set_cons_zero, List.set_cons_succ]
      refine wpAnyHK_take (i := 8) (v := ?_) (by kernel_rfl) (by kernel_rfl) rfl (by kernel_rfl) (by kernel_rfl) (by kernel_rfl) (fun _ _ _ h => h) (Or.inl ⟨by kernel_rfl, ?_⟩) (fun _ => rfl) (by assumption) ?_
      rotate_left
      · (intro wx hSw; (try dsimp only at hSw); go_simp; try (with_reducible rfl))
      try simp only [Act.put, List.getElem_toArray, List.getElem_cons_succ, List.getElem_cons_zero, List.setIfInBounds_toArray, List.set_cons_zero, List.set_cons_succ]
      refine wpAnyHK_ready (rs := [9]) (by kernel_rfl) (by simp) ?_
      refine AllReadyHK.cons rfl (fun K hK => ?_) AllReadyHK.nil
      go_simp
      (refine ⟨by first | trivial | exact fun _ _ => trivial, by first | rfl | (intro h; simp [Fence.wide] at h), CallsIn.inRound _ (CallsIn.mono (callsIn_wide.2 (lesser_any _ _ _ _)) ?_)⟩; rintro e w7 ⟨rfl, hb7⟩; have c7 := (HSH.out w7 (Bl.trans_ ((Bl.refl X).drew_) hb7)).2.2.2.2; have f7 : w7.frozen? ⟨w1.heap.size, u, none⟩ = false := (((bcell (Bl.trans_ ((Bl.refl X).drew_) hb7)).2 _ _ d2).trans FR9.out))
      try (gi_wp2_with fail)
      refine hK.out _ _ ?_ (fun hHeld => ?_)
      · (exact HSH.out _ (by repeat' (first | exact Bl.refl _ | with_reducible assumption | with_reducible refine Bl.drew_ ?_ | with_reducible refine Bl.drewN_ ?_ _ | with_reducible refine Bl.alloc_ ?_ _ | with_reducible refine Bl.trans_ ?_ (by assumption) | with_reducible refine Bl.trans_ ?_ (And.left (by assumption)))))
      clear hK K
      try simp only [Act.put, List.getElem_toArray, List.getElem_cons_succ, List.getElem_cons_zero, List.setIfInBounds_toArray, List.set_cons_zero, List.set_cons_succ]
      refine wpAnyHK_ready (rs := [10]) (by kernel_rfl) (by simp) ?_
      refine AllReadyHK.cons rfl (fun K hK => ?_) AllReadyHK.nil
      go_simp
      refine hK.out _ _ ?_ (fun hHeld => ?_)
      · (exact HSH.out _ (by repeat' (first | exact Bl.refl _ | with_reducible assumption | with_reducible refine Bl.drew_ ?_ | with_reducible refine Bl.drewN_ ?_ _ | with_reducible refine Bl.alloc_ ?_ _ | with_reducible refine Bl.trans_ ?_ (by assumption) | with_reducible refine Bl.trans_ ?_ (And.left (by assumption)))))
      clear hK K
      try simp only [Act.put, List.getElem_toArray, List.getElem_cons_succ, List.getElem_cons_zero, List.setIfInBounds_toArray, List.set_cons_zero, List.set_cons_succ]
      refine wpAnyHK_take (i := 11) (v := ?_) (by kernel_rfl) (by kernel_rfl) rfl (by kernel_rfl) (by kernel_rfl) (by kernel_rfl) (fun _ _ _ h => h) (Or.inl ⟨by kernel_rfl, ?_⟩) (fun _ => rfl) (by assumption) ?_
      rotate_left
      · (intro wx hSw; (try dsimp only at hSw); go_simp; try (with_reducible rfl))
      try simp only [Act.put, List.getElem_toArray, List.getElem_cons_succ, List.getElem_cons_zero, List.setIfInBounds_toArray, List.set_cons_zero, List.set_cons_succ]
      refine wpAnyHK_ready (rs := [12]) (by kernel_rfl) (by simp) ?_
      refine AllReadyHK.last rfl (fun K hK => ?_)
      go_simp
      refine hK.out _ _ ?_
      clear hK K
      try simp only [Act.put, List.getElem_toArray, List.getElem_cons_succ, List.getElem_cons_zero, List.setIfInBounds_toArray, List.set_cons_zero, List.set_cons_succ]
      refine wpAnyHK_done (by kernel_rfl) ?_ _
      have B7 := Lib.hid (show Bl X w7 from (by repeat' (first | exact Bl.refl _ | with_reducible assumption | with_reducible refine Bl.drew_ ?_ | with_reducible refine Bl.drewN_ ?_ _ | with_reducible refine Bl.alloc_ ?_ _ | with_reducible refine Bl.trans_ ?_ (by assumption) | with_reducible refine Bl.trans_ ?_ (And.left (by assumption)))))
      gi_wp2_with fail
      refine ⟨fun i => i = w1.heap.size ∨ i = w1.heap.size + 1, ⟨Turn.set (p := ⟨w1.heap.size, u, none⟩) (Turn.of_bl B7.out) (.inl ((KK9.out _).2 (.inl rfl))) _, fun i hi => .inl ((KK9.out i).2 (by rcases hi with h | h <;> simp [h]))⟩, fun i => Iff.rfl, ?_, ?_⟩
      · rw [SN.out]
        exact (OO9.out.bl B7.out).put_ HRL.out.symm u _
      · rw [World.cell?_setCell_other _ _ _ _ (by simp)]
        exact ((bcell B7.out).1 _ _ hvl).trans VV9.out
    case done =>
      rintro D xs K X hD hall ⟨hk, ho, hv⟩ hT hKD hdef
      have OO9 := Lib.hid ho
      have HT := Lib.hid hT
      have HD := Lib.hid hdef
      have HAL := Lib.hid (show reachS q xs = reachL q L from by unfold reachL; rw [if_pos HO.out]; unfold AllSP at hall; rw [hall]; simp)
      have HLL := Lib.hid (show q = (reachS q xs).length from (reachS_len q xs).symm)
      have hDs : w6.heap.size ≤ D := hD
      have hs6' := hs6
      clear ho hT hdef hk hall hKD hin O6 V6 hD hs6
      gi_wp2_with fail
      refine leaves_marks [D] _ _ ((MarksD.nil_ X).cons HD.out (by simp)) fun w' t' => ?_
      refine ⟨_, by simp [results, Try.results53, go_sem]; rfl, ?_⟩
      refine ⟨_, rfl, ?_, ?_⟩
      · rw [← HAL.out]
        exact OO9.out.turn_ t' (fun g hg h => by
          have e1 : w1.heap.size = g := by simpa [Value.ownBlock] using hg
          have e2 : g = D := by simpa using h
          omega)
      · have hb := Turn.to_bl BW6.out HT.out (fun i hi => by have := BW.out.size; rcases hi with h | h <;> omega)
        exact Turn.to_bl hb t' (fun i hi => by have : i = D := by simpa using hi
                                               have := BW6.out.size; omega)

end Go.Proofs.Ytpbgnidjgmmebaa

set_option linter.unusedSimpArgs false
set_option linter.unusedVariables false
namespace Go.Proofs.Ytpbgnidjgmmebaa
open Go.RowKit

/-- A graph and a row of numbers of its own that are drawn by a code. -/
def DrawnGV (w : World) (e : Ending) (w' : World) : Prop :=
  ∃ (N : Int) (A' : Option Addr) (l c' : Nat) (L : List Arc3) (A3 : Option Addr) (k c3 : Nat) (V : List Int), e = .returned (.tuple #[.agg #[.int .i64 N, .slice A' l c'], .slice A3 k c3]) ∧ Drawn w.heap.size w' N A' l c' L ∧ k = V.length ∧ k ≤ 1048576 ∧ OwnN w' w.heap.size (.slice A3 k c3) V ∧ Bl w w'

/-- The state while reaches are drawn. -/
structure RS (w : World) (rd : Nat) (A : Option Addr) (n c g0 gb b1 : Nat) (N : Int) (A' : Option Addr) (l c' : Nat) (L : List Arc3) (A3 : Option Addr) (k c3 : Nat) (V : List Int) (wx : World) : Prop where
  len : k = V.length
  box : Two wx gb (.int .i64 N) (.slice A' l c')
  res : Two wx g0 (.int .i64 0) (.slice none 0 0)
  own : OwnN wx (gb + 1) (.slice A3 k c3) V
  gra : OwnA wx b1 (.slice A' l c') L
  glt : ∀ g, (Value.slice A' l c').ownBlock = some g → g < gb
  rdr : RdAny wx rd A n c
  bl : Bl w wx
  lo0 : w.heap.size ≤ g0
  lo1 : g0 < rd
  lo2 : rd < b1
  lo3 : b1 ≤ gb
  alt : 0 < n → ∀ g off, A = some ⟨g, off, none⟩ → g < w.heap.size
section
variable {w wr w2 : World} {rd : Nat} {A : Option Addr} {n c g0 gb b1 : Nat} {N : Int} {A' : Option Addr} {l c' : Nat} {L : List Arc3} {A3 : Option Addr} {k c3 : Nat} {V : List Int}
theorem RS.rd_ (h : RS w rd A n c g0 gb b1 N A' l c' L A3 k c3 V wr) (hr : RdAny w2 rd A n c) (hg : wr.grownBy w2 (some rd)) : RS w rd A n c g0 gb b1 N A' l c' L A3 k c3 V w2 := by
  have h0 := h.lo0; have h1 := h.lo1; have h2 := h.lo2; have h3 := h.lo3
  exact ⟨h.len, h.box.grown_ hg (fun e => by injection e with e; omega), h.res.grown_ hg (fun e => by injection e with e; omega), Owns.grown_ h.own hg (fun g hg' e => by
      injection e with e
      have := (Owns.lt h.own g hg').1
      omega), h.gra.grown_ hg (fun g e => by injection e with e; omega), h.glt, hr, h.bl.grown_ hg (fun g e => by injection e with e; omega), h0, h1, h2, h3, h.alt⟩
theorem RS.bl_ (h : RS w rd A n c g0 gb b1 N A' l c' L A3 k c3 V wr) (hb : Bl wr w2) : RS w rd A n c g0 gb b1 N A' l c' L A3 k c3 V w2 :=
  ⟨h.len, h.box.bl hb, h.res.bl hb, h.own.bl hb, h.gra.bl hb, h.glt, h.rdr.bl hb, h.bl.trans_ hb, h.lo0, h.lo1, h.lo2, h.lo3, h.alt⟩
theorem RS.put {g3 : Nat} (h : RS w rd A n c g0 gb b1 N A' l c' L (some ⟨g3, 0, none⟩) k c3 V wr) (d : Nat) (x : Int) : RS w rd A n c g0 gb b1 N A' l c' L (some ⟨g3, 0, none⟩) k c3 (V.set d x) (wr.setCell ⟨g3, d, none⟩ (.int .i64 x)) := by
  have h0 := h.lo0; have h1 := h.lo1; have h2 := h.lo2; have h3 := h.lo3
  have h4 := (Owns.lt h.own g3 rfl).1
  exact ⟨by rw [List.length_set]; exact h.len, h.box.far (by show gb ≠ g3; omega) _, h.res.far (by show g0 ≠ g3; omega) _, OwnN.put_ h.own h.len d x, Owns.setOther h.gra (fun g hg e => by
      have h5 := h.glt g hg
      have h6 : g = g3 := e
      omega) _, h.glt, h.rdr.set_ (by show g3 ≠ rd; omega) (fun h0 g off e => by have := h.alt h0 g off e; show g ≠ g3; omega) _, h.bl.set_ (by show w.heap.size ≤ g3; omega) _, h0, h1, h2, h3, h.alt⟩
theorem RS.fin (h : RS w rd A n c g0 gb b1 N A' l c' L A3 k c3 V wr) (hN : In64 N) (hl : l = L.length) (hl2 : l ≤ 200) (hk : k ≤ 1048576) (x y : Value) :
    DrawnGV w (.returned (.tuple #[.agg #[.int .i64 N, .slice A' l c'], .slice A3 k c3])) ((wr.setCell ⟨g0, 0, none⟩ x).setCell ⟨g0, 1, none⟩ y) := by
  have h0 := h.lo0; have h1 := h.lo1; have h2 := h.lo2; have h3 := h.lo3
  have hne : ∀ g, (Value.slice A3 k c3).ownBlock = some g → g ≠ g0 := fun g hg e => by have := (Owns.lt h.own g hg).1; omega
  exact ⟨N, A', l, c', L, A3, k, c3, V, rfl, ⟨hl, hl2, hN, ((h.gra.set_ (by show g0 < b1; omega) _).set_ (by show g0 < b1; omega) _).low (by omega)⟩, h.len, hk,
    OwnN.low (Owns.setOther (Owns.setOther h.own (p := ⟨g0, 0, none⟩) hne _) (p := ⟨g0, 1, none⟩) hne _) (by omega), (h.bl.set_ h0 _).set_ h0 _⟩
theorem RS.some_ (h : RS w rd A n c g0 gb b1 N A' l c' L A3 k c3 V wr) (hk : 0 < k) : ∃ g3, A3 = some ⟨g3, 0, none⟩ ∧ gb < g3 := by
  have hl := h.len
  have hO := h.own
  subst hl
  obtain ⟨g, cc, e, hB, -, -⟩ := OwnN.toRow hO (by omega)
  injection e with e1 e2 e3
  exact ⟨g, e1, hB⟩
theorem RS.at_ {g3 : Nat} (h : RS w rd A n c g0 gb b1 N A' l c' L (some ⟨g3, 0, none⟩) k c3 V wr) {d : Nat} (hd : d < k) : (∃ x : Int, wr.cell? ⟨g3, d, none⟩ = some (.int .i64 x)) ∧ wr.frozen? ⟨g3, d, none⟩ = false ∧ g3 < wr.heap.size := by
  have hl := h.len
  obtain ⟨h1, h2, h3⟩ := OwnN.cell_ h.own hl (d := d) (by omega)
  exact ⟨⟨_, h1⟩, h2, h3⟩
end

set_option maxRecDepth 100000 in
set_option maxHeartbeats 4000000 in
theorem drawReachOk_any (A : Option Addr) (n c : Nat) (w : World) (hn : n ≤ 1099511627776) (H : BytesAt w A n) :
    Calls Try.prog 54 #[.slice A n c] w (DrawnGV w) := by
  have K := Lib.hid H
  clear H
  go_enter Try.func54, Try.ntmps54
  go_wp2_with fail
  refine (open_any A n c _ (K.out.bl (by repeat' (first | exact Bl.refl _ | with_reducible assumption | with_reducible refine Bl.drew_ ?_ | with_reducible refine Bl.drewN_ ?_ _ | with_reducible refine Bl.alloc_ ?_ _ | with_reducible refine Bl.trans_ ?_ (by assumption) | with_reducible refine Bl.trans_ ?_ (And.left (by assumption)))))).mono ?_
  rintro e w1 ⟨rfl, hr, hb, hlt⟩
  have R1 := Lib.hid (show RdAny w1 (w.heap.size + 1) A n c from by rw [World.size_alloc] at hr; exact hr)
  have B1 := Lib.hid hb
  have s1 := hb.size
  simp only [World.size_alloc] at s1 hlt
  clear hr hb
  go_wp2_with fail
  refine (graph_any 8 (w.heap.size + 1) A n c _ hn (by omega) (by omega) R1.out (fun h0 g off e => by have := K.out.lt' h0 g off e; omega)).mono ?_
  rintro e w2 ⟨N, A', l, c', L, rfl, hd, hr, hg⟩
  obtain ⟨ha, hlc⟩ := hd.arcs
  have HL := Lib.hid hd.1
  have hl200 := hd.2.1
  have HN := Lib.hid hd.2.2.1
  have s2 := hg.size
  have B2 := Lib.hid (show Bl (w.alloc (.cells #[.int .i64 0, .slice none 0 0] 26)) w2 from B1.out.grown_ hg (fun g e => by injection e with e; simp; omega))
  have O2 := Lib.hid hd.2.2.2
  have R2 := Lib.hid hr
  obtain ⟨X, hX⟩ : ∃ X, X = w2.alloc (.cells #[.int .i64 N, .slice A' l c'] 26) := ⟨_, rfl⟩
  have BX := Lib.hid (show Bl w2 X from by rw [hX]; exact Bl.alloc_ (Bl.refl w2) _)
  have TX := Lib.hid (show Two X w2.heap.size (.int .i64 N) (.slice A' l c') from by rw [hX]; exact Two.new _ _ _)
  have SX := Lib.hid (show X.heap.size = w2.heap.size + 1 from by rw [hX, World.size_alloc])
  have HA := Lib.hid (show ArcsAt X X.heap.size A' L from ha.bl BX.out)
  clear hd hr hg ha
  go_wp2_with fail
  rw [← hX]
  clear hX
  refine (specReachOf_any N A' l c' L HL.out _ (by omega) HA.out).mono ?_
  rintro e w3 ⟨v3, rfl, hv3, hb3⟩
  have O3 := Lib.hid hv3
  obtain ⟨A3, c3, rfl, -, -, -, -⟩ := OwnN.shape hv3
  have hk20 : (reachL N L).length ≤ 1048576 := reachL_len N L
  obtain ⟨V0, hV0⟩ : ∃ V0, V0 = reachL N L := ⟨_, rfl⟩
  rw [← hV0] at O3 hk20 ⊢
  obtain ⟨k, hk⟩ : ∃ k, k = V0.length := ⟨_, rfl⟩
  rw [← hk] at O3 hk20 ⊢
  obtain ⟨gb, hgb⟩ : ∃ gb, gb = w2.heap.size := ⟨_, rfl⟩
  obtain ⟨b1, hb1⟩ : ∃ b1, b1 = w1.heap.size := ⟨_, rfl⟩
  have S0 := Lib.hid (show RS w (w.heap.size + 1) A n c w.heap.size gb b1 N A' l c' L A3 k c3 V0 w3 from by
    subst hgb
    subst hb1
    refine ⟨hk, TX.out.bl hb3, ((Two.new w _ _).bl B2.out).bl (BX.out.trans_ hb3), ?_, O2.out.bl (BX.out.trans_ hb3), fun g hg => (Owns.lt O2.out g hg).2, R2.out.bl (BX.out.trans_ hb3), ((Bl.alloc_ (Bl.refl w) _).trans_ B2.out).trans_ (BX.out.trans_ hb3), Nat.le_refl _, by omega, by omega, by omega, K.out.lt'⟩
    have h := O3.out
    rw [SX.out] at h
    exact h)
  clear hv3 hV0 hk hb3
  go_wp2_with fail
  rw [← hgb]
  clear hgb hb1 s1 s2 hlt
  go_loopw [7] (fun i wr => ∃ (j : Nat) (V : List Int), i = .int .i64 (j : Int) ∧ j ≤ k ∧ RS w (w.heap.size + 1) A n c w.heap.size gb b1 N A' l c' L A3 k c3 V wr) (fun i _ => k - (intOf i).toNat)
  case atStart => exact ⟨0, V0, rfl, by omega, S0.out⟩
  case round =>
    clear S0
    obtain ⟨j, V, rfl, hj, hS⟩ := hrel
    have U := Lib.hid hS
    clear hS
    by_cases hjk : j < k
    · have hd : decide ((j : Int) < (k : Int)) = true := by simpa using hjk
      go_wp2_with fail
      refine (once_any 3 (w.heap.size + 1) A n c _ hn (by omega) (by omega) U.out.rdr).mono ?_
      rintro e w4 ⟨b, rfl, hr, hg⟩
      have U1 := Lib.hid (U.out.rd_ hr hg)
      clear hr hg U
      cases b with
      | false =>
        go_wp2_with fail
        go_roundw
        case rel => exact ⟨j + 1, V, by go_num, by omega, U1.out⟩
        case measure => simp [intOf]; omega
      | true =>
        obtain ⟨g3, rfl, hg3⟩ := U1.out.some_ (by omega)
        obtain ⟨⟨x, k1⟩, k2, k3⟩ := U1.out.at_ hjk
        have j0 : (0 : Int) ≤ (j : Int) := by omega
        have j1 : (j : Int) < (k : Int) := by omega
        go_wp2_with fail
        go_region_with (first
          | (go_at_call 74; refine (below_any 4 (w.heap.size + 1) A n c _ hn (by omega) ((U1.out.bl_ (by repeat' (first | exact Bl.refl _ | with_reducible assumption | with_reducible refine Bl.drew_ ?_ | with_reducible refine Bl.drewN_ ?_ _ | with_reducible refine Bl.alloc_ ?_ _ | with_reducible refine Bl.trans_ ?_ (by assumption) | with_reducible refine Bl.trans_ ?_ (And.left (by assumption))))).rdr)).mono ?_; rintro e w8 ⟨z, hz, rfl, hr, hg⟩; have U3 := Lib.hid ((U1.out.bl_ (by repeat' (first | exact Bl.refl _ | with_reducible assumption | with_reducible refine Bl.drew_ ?_ | with_reducible refine Bl.drewN_ ?_ _ | with_reducible refine Bl.alloc_ ?_ _ | with_reducible refine Bl.trans_ ?_ (by assumption) | with_reducible refine Bl.trans_ ?_ (And.left (by assumption))))).rd_ hr hg); clear hz hr hg; obtain ⟨⟨x', d1⟩, d2, d3⟩ := U3.out.at_ hjk))
        all_goals (go_wp2; go_roundw)
        all_goals (first | (case measure => (simp [intOf]; omega)) | skip)
        all_goals (exact ⟨j + 1, _, by go_num, by omega, U3.out.put j _⟩)
    · have hd : decide ((j : Int) < (k : Int)) = false := by simpa using hjk
      have fin := fun (V9 : List Int) (w9 : World) (A9 : Option Addr) (h : RS w (w.heap.size + 1) A n c w.heap.size gb b1 N A' l c' L A9 k c3 V9 w9) => h.fin HN.out HL.out hl200 hk20
      have FIN := Lib.hid fin
      clear fin
      go_wp2_with fail
      refine (once_any 4 (w.heap.size + 1) A n c _ hn (by omega) (by omega) U.out.rdr).mono ?_
      rintro e w4 ⟨b, rfl, hr, hg⟩
      have U1 := Lib.hid (U.out.rd_ hr hg)
      have nb : gb ≠ w.heap.size := by have h1 := U.out.lo1; have h2 := U.out.lo2; have h3 := U.out.lo3; omega
      have nb' : w.heap.size ≠ gb := by omega
      clear hr hg U
      cases b with
      | false =>
        obtain ⟨y0, y1, fy0, fy1⟩ := U1.out.box.facts
        obtain ⟨r0, r1, fr0, fr1⟩ := U1.out.res.facts
        go_wp2
        refine bodyPost_ret (v := .tuple #[.agg #[.int .i64 N, .slice A' l c'], .slice A3 k c3]) (by simp [results, Try.results54, go_sem, r0, r1, fr0, fr1]) rfl ?_
        exact FIN.out _ _ _ U1.out _ _
      | true =>
        by_cases hk0 : 0 < k
        · have bk : decide ((0 : Int) < (k : Int)) = true := by simpa using hk0
          go_wp2_with fail
          refine (below_any k (w.heap.size + 1) A n c _ hn (by omega) U1.out.rdr).mono ?_
          rintro e w5 ⟨d, ⟨hd0, hd1⟩, rfl, hr, hg⟩
          have U2 := Lib.hid (U1.out.rd_ hr hg)
          have hdk : d < (k : Int) := by omega
          obtain ⟨dn, rfl⟩ : ∃ dn : Nat, d = dn := ⟨d.toNat, by omega⟩
          clear hr hg hd1 U1
          go_wp2_with fail
          refine (off_any 0 5 (w.heap.size + 1) A n c _ hn (by omega) (by omega) (by omega) (by omega) U2.out.rdr).mono ?_
          rintro e w6 ⟨x, hx, rfl, hr, hg⟩
          have U3 := Lib.hid (U2.out.rd_ hr hg)
          clear hr hg U2 hx
          obtain ⟨g3, rfl, hg3⟩ := U3.out.some_ hk0
          have hdn : dn < k := by omega
          obtain ⟨⟨x', k1⟩, k2, k3⟩ := U3.out.at_ hdn
          have U4 := Lib.hid (U3.out.put dn x)
          obtain ⟨y0, y1, fy0, fy1⟩ := U4.out.box.facts
          obtain ⟨r0, r1, fr0, fr1⟩ := U4.out.res.facts
          have n1 : g3 ≠ gb := by omega
          have n2 : gb ≠ g3 := by omega
          have n3 : g3 ≠ w.heap.size := by have h1 := U3.out.lo1; have h2 := U3.out.lo2; have h3 := U3.out.lo3; omega
          have n4 : w.heap.size ≠ g3 := by omega
          have d0 : (0 : Int) ≤ (dn : Int) := by omega
          have d1 : (dn : Int) < (k : Int) := hdk
          obtain ⟨z0, z1, fz0, fz1⟩ := U3.out.box.facts
          obtain ⟨r0', r1', fr0', fr1'⟩ := U3.out.res.facts
          go_wp2
          refine bodyPost_ret (v := .tuple #[.agg #[.int .i64 N, .slice A' l c'], .slice (some ⟨g3, 0, none⟩) k c3]) (by simp [results, Try.results54, go_sem, r0, r1, fr0, fr1, r0', r1', fr0', fr1', n3, n4]) rfl ?_
          exact FIN.out _ _ _ U4.out _ _
        · have bk : decide ((0 : Int) < (k : Int)) = false := by simpa using hk0
          obtain ⟨y0, y1, fy0, fy1⟩ := U1.out.box.facts
          obtain ⟨r0, r1, fr0, fr1⟩ := U1.out.res.facts
          go_wp2
          refine bodyPost_ret (v := .tuple #[.agg #[.int .i64 N, .slice A' l c'], .slice A3 k c3]) (by simp [results, Try.results54, go_sem, r0, r1, fr0, fr1]) rfl ?_
          exact FIN.out _ _ _ U1.out _ _

end Go.Proofs.Ytpbgnidjgmmebaa

set_option linter.unusedSimpArgs false
set_option linter.unusedVariables false
namespace Go.Proofs.Ytpbgnidjgmmebaa
open Go.RowKit

set_option maxRecDepth 100000 in
set_option maxHeartbeats 1000000 in
theorem implReachOk_any (N : Int) (A : Option Addr) (n c : Nat) (L : List Arc3) (hn : n = L.length) (A2 : Option Addr) (k c2 : Nat) (V : List Int) (hk : k = V.length) (hc : n ≤ c) (w : World) (hm : n ≤ 1048576) (hkm : k ≤ 1048576) (H1 : ArcsAt w w.heap.size A L) (H2 : IntsAt w w.heap.size A2 V) :
    Calls Try.prog 56 #[.agg #[.int .i64 N, .slice A n c], .slice A2 k c2] w fun e w' => e = .returned (.bool (reachB N L V)) ∧ Bl w w' := by
  have K1 := Lib.hid H1
  have K2 := Lib.hid H2
  have HN := Lib.hid hn
  have HK := Lib.hid hk
  clear H1 H2 hn hk
  cases ho : okB N L with
  | false =>
    have HR := Lib.hid (show reachB N L V = false from by unfold reachB; rw [ho, Bool.false_and, Bool.false_and])
    have HO := Lib.hid ho
    clear ho
    go_enter Try.func56, Try.ntmps56
    go_wp2_with fail
    refine (implOk_any N A n c L HN.out _ (by omega) (K1.out.bl (by repeat' (first | exact Bl.refl _ | with_reducible assumption | with_reducible refine Bl.drew_ ?_ | with_reducible refine Bl.drewN_ ?_ _ | with_reducible refine Bl.alloc_ ?_ _ | with_reducible refine Bl.trans_ ?_ (by assumption) | with_reducible refine Bl.trans_ ?_ (And.left (by assumption)))))).mono ?_
    rintro e w1 ⟨rfl, hb1⟩
    rw [HO.out]
    go_wp2
    go_ret
    exact ⟨ret_boolw HR.out.symm, (by repeat' (first | exact Bl.refl _ | with_reducible assumption | with_reducible refine Bl.drew_ ?_ | with_reducible refine Bl.drewN_ ?_ _ | with_reducible refine Bl.alloc_ ?_ _ | with_reducible refine Bl.trans_ ?_ (by assumption) | with_reducible refine Bl.trans_ ?_ (And.left (by assumption))))⟩
  | true =>
    have HO := Lib.hid ho
    have hN1 := (okB_elim ho).1
    have hN24 := (okB_elim ho).2.1
    clear ho
    by_cases hkN : (k : Int) = N
    · subst hkN
      have hne : ((k : Int) != (k : Int)) = false := by simp
      go_enter Try.func56, Try.ntmps56
      go_wp2_with fail
      refine (implOk_any (k : Int) A n c L HN.out _ (by omega) (K1.out.bl (by repeat' (first | exact Bl.refl _ | with_reducible assumption | with_reducible refine Bl.drew_ ?_ | with_reducible refine Bl.drewN_ ?_ _ | with_reducible refine Bl.alloc_ ?_ _ | with_reducible refine Bl.trans_ ?_ (by assumption) | with_reducible refine Bl.trans_ ?_ (And.left (by assumption)))))).mono ?_
      rintro e w1 ⟨rfl, hb1⟩
      rw [HO.out]
      obtain ⟨q0, q1⟩ := box2 hb1
      have BB := Lib.hid (show Bl w w1 from (by repeat' (first | exact Bl.refl _ | with_reducible assumption | with_reducible refine Bl.drew_ ?_ | with_reducible refine Bl.drewN_ ?_ _ | with_reducible refine Bl.alloc_ ?_ _ | with_reducible refine Bl.trans_ ?_ (by assumption) | with_reducible refine Bl.trans_ ?_ (And.left (by assumption)))))
      go_wp2_with fail
      refine (implReachOf_any k A n c L HN.out hc _ (by omega) (K1.out.bl (by repeat' (first | exact Bl.refl _ | with_reducible assumption | with_reducible refine Bl.drew_ ?_ | with_reducible refine Bl.drewN_ ?_ _ | with_reducible refine Bl.alloc_ ?_ _ | with_reducible refine Bl.trans_ ?_ (by assumption) | with_reducible refine Bl.trans_ ?_ (And.left (by assumption)))))).mono ?_
      rintro e w2 ⟨v, rfl, hv, hb2⟩
      obtain ⟨A3, c3, rfl, -, hA3, -, -⟩ := OwnN.shape hv
      rw [reachL_q HO.out]
      have V3 := Lib.hid hA3
      have B2 := Lib.hid (show Bl w w2 from (by repeat' (first | exact Bl.refl _ | with_reducible assumption | with_reducible refine Bl.drew_ ?_ | with_reducible refine Bl.drewN_ ?_ _ | with_reducible refine Bl.alloc_ ?_ _ | with_reducible refine Bl.trans_ ?_ (by assumption) | with_reducible refine Bl.trans_ ?_ (And.left (by assumption)))))
      have RQ := Lib.hid (reachL_q HO.out)
      clear hv hA3 q0 q1 hb2
      go_wp2_with fail
      go_loopw [20] (fun i wr => ∃ j : Nat, j ≤ k ∧ i = .int .i64 j ∧ Bl w2 wr ∧ notLess k L V j = true) (fun i _ => k - (intOf i).toNat)
      case atStart => exact ⟨0, by omega, rfl, Bl.refl _, rfl⟩
      case round =>
        obtain ⟨j, hj, rfl, hbl, hnl⟩ := hrel
        have NL := Lib.hid hnl
        clear hnl
        by_cases hlt : j < k
        · have hj1 : j < V.length := by have := HK.out; omega
          have hj2 : j < (reachL k L).length := by rw [RQ.out]; exact hlt
          obtain ⟨g2, o2, rfl, hg2, hc2⟩ := K2.out.cell (by omega)
          obtain ⟨g3, o3, rfl, hg3, hc3⟩ := V3.out.cell (by omega)
          have p2 := hc2 j hj1
          have p3 := hc3 j hj2
          have e2 : V.getD j 0 = V[j] := by simp [hj1]
          have e3 : (reachL k L).getD j 0 = (reachL k L)[j] := by simp [hj2]
          have NS := Lib.hid (notLess_succ k L V j)
          have NF := Lib.hid (show notLess k L V (j + 1) = false → reachB k L V = false from fun h => by
            have := notLess_false h (V.length - (j + 1))
            rw [show j + 1 + (V.length - (j + 1)) = V.length from by omega] at this
            unfold reachB
            rw [this, Bool.and_false])
          rw [e2, e3, NL.out, Bool.true_and] at NS
          generalize V[j] = a at *
          generalize (reachL (k : Int) L)[j] = b at *
          have HSH := Lib.hid (show ∀ wx, Bl wr wx → Bl wr wx ∧ wx.cell? ⟨g2, o2 + j, none⟩ = some (.int .i64 a) ∧ wx.cell? ⟨g3, o3 + j, none⟩ = some (.int .i64 b) from fun wx hb =>
            ⟨hb, ((bcell ((B2.out.trans_ hbl).trans_ hb)).1 _ _ hg2).trans p2, ((bcell (hbl.trans_ hb)).1 _ _ hg3).trans p3⟩)
          have hj0 : (0 : Int) ≤ (j : Int) := by omega
          have hj3 : (j : Int) < (k : Int) := by omega
          clear hc2 hc3 p2 p3 e2 e3
          obtain ⟨hbz, y2, y3⟩ := HSH.out wr (Bl.refl _)
          by_cases hab : a < b
          · have hd : decide (b ≤ a) = false := by simp; omega
            have RB := Lib.hid (NF.out (by rw [NS.out, hd]))
            go_wp2
            go_ret
            exact ⟨ret_boolw RB.out.symm, (B2.out.trans_ hbl).trans_ (by repeat' (first | exact Bl.refl _ | with_reducible assumption | with_reducible refine Bl.drew_ ?_ | with_reducible refine Bl.drewN_ ?_ _ | with_reducible refine Bl.alloc_ ?_ _ | with_reducible refine Bl.trans_ ?_ (by assumption) | with_reducible refine Bl.trans_ ?_ (And.left (by assumption))))⟩
          · have hd : decide (b ≤ a) = true := by simp; omega
            have NT := Lib.hid (show notLess k L V (j + 1) = true from by rw [NS.out, hd])
            go_wp2
            go_roundw
            case rel => exact ⟨j + 1, by omega, by go_num, hbl.trans_ (by repeat' (first | exact Bl.refl _ | with_reducible assumption | with_reducible refine Bl.drew_ ?_ | with_reducible refine Bl.drewN_ ?_ _ | with_reducible refine Bl.alloc_ ?_ _ | with_reducible refine Bl.trans_ ?_ (by assumption) | with_reducible refine Bl.trans_ ?_ (And.left (by assumption)))), NT.out⟩
            case measure => simp [intOf]; omega
        · have RB := Lib.hid (show reachB k L V = true from by
            unfold reachB
            rw [HO.out, show V.length = j from by have := HK.out; omega, NL.out]
            simp; omega)
          go_wp2
          go_ret
          exact ⟨ret_boolw RB.out.symm, B2.out.trans_ hbl⟩
    · have hne : ((k : Int) != N) = true := by simpa using hkN
      have HR := Lib.hid (show reachB N L V = false from by unfold reachB; rw [show decide ((V.length : Int) = N) = false from by rw [← HK.out]; simpa using hkN, Bool.and_false, Bool.false_and])
      go_enter Try.func56, Try.ntmps56
      go_wp2_with fail
      refine (implOk_any N A n c L HN.out _ (by omega) (K1.out.bl (by repeat' (first | exact Bl.refl _ | with_reducible assumption | with_reducible refine Bl.drew_ ?_ | with_reducible refine Bl.drewN_ ?_ _ | with_reducible refine Bl.alloc_ ?_ _ | with_reducible refine Bl.trans_ ?_ (by assumption) | with_reducible refine Bl.trans_ ?_ (And.left (by assumption)))))).mono ?_
      rintro e w1 ⟨rfl, hb1⟩
      rw [HO.out]
      obtain ⟨q0, q1⟩ := box2 hb1
      go_wp2
      go_ret
      exact ⟨ret_boolw HR.out.symm, (by repeat' (first | exact Bl.refl _ | with_reducible assumption | with_reducible refine Bl.drew_ ?_ | with_reducible refine Bl.drewN_ ?_ _ | with_reducible refine Bl.alloc_ ?_ _ | with_reducible refine Bl.trans_ ?_ (by assumption) | with_reducible refine Bl.trans_ ?_ (And.left (by assumption))))⟩

end Go.Proofs.Ytpbgnidjgmmebaa
