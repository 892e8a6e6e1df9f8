/-
  What is proved here: a region that draws its order, in a round of a range over a function, is met by the laws for one without a fence; in a region that draws its order, whatever the fence, an operation may be taken first that yields its value in every world that meets a condition, where that condition is shown anew behind all others; what the iterator over the shortest paths of all pairs keeps in memory. No conditions beyond those that each theorem states.
-/
import Derived.Test.YtpbgnidjgmmebaaTG08
import Derived.Test.YtpbgnidjgmmebaaTG12
import Derived.Test.YtpbgnidjgmmebaaTG15
set_option linter.unusedSimpArgs false
set_option linter.unusedVariables false
namespace Go.Proofs.Ytpbgnidjgmmebaa
open Go.RowKit

section
variable {P : Program} {Q : Exit → Act → World → Prop} {K K' : Act → World → Prop} {a : Act} {w : World} {ops : Array Oper} {md : Region.Mode} {l : Nat}
theorem upon_round {o : Oper} {r : Result Next} (hk : ∀ a w, K a w → K' a w) (h : o.upon P a K (NoOut Q) r) : o.uponIn (Fence.wide.inRound l) 0 P a K' Q r := by
  cases r with
  | ok x w' =>
    cases x <;> simp only [Oper.upon, Oper.uponIn] at h ⊢
    case value v => exact hk _ _ h
    case skip => exact hk _ _ h
    case defer d => exact hk _ _ h
    case enter f args =>
      refine ⟨fun h => by simp [Fence.wide] at h, CallsIn.inRound l (callsIn_wide.2 (Calls.mono h fun e w'' he => ?_))⟩
      cases e with
      | returned v => exact hk _ _ he
      | panicked c => exact absurd he id
      | outgrown => exact absurd he NoOut.not
    case row row args =>
      refine ⟨fun h => by simp [Fence.wide] at h, fun c cs _ => ?_⟩
      obtain ⟨v, w2, hr, hs⟩ := h c cs
      exact ⟨v, w2, hk _ _ hr, stepsIn_wide.2 hs⟩
  | halt x w' =>
    cases x <;> simp only [Oper.upon, Oper.uponIn] at h ⊢
    case panic v => exact absurd h id

/-- None of these operations is a defer statement. -/
def noDefer (ops : Array Oper) : Bool := ops.all fun o => match o.op with | .defer _ => false | _ => true
theorem noDefer_at {i : Nat} {o : Oper} (h : noDefer ops = true) (hi : ops[i]? = some o) : ∀ c, o.op ≠ .defer c := fun c e => by
  have h1 := Array.all_eq_true'.1 h o (Array.mem_of_getElem? hi)
  rw [e] at h1
  exact absurd h1 (by simp)
theorem wpOp_round {i : Nat} (hd : noDefer ops = true) (hk : ∀ a w, K a w → K' a w) (h : wpOp P ops (NoOut Q) i K a w) : wpOpIn (Fence.wide.inRound l) 0 P ops Q i K' a w := by
  unfold wpOp at h
  unfold wpOpIn
  cases hi : ops[i]? with
  | none => rw [hi] at h; exact hk _ _ h
  | some o =>
    rw [hi] at h
    simp only at h ⊢
    split
    · rename_i hw
      rw [if_pos hw] at h
      refine ⟨fun _ _ => trivial, ?_⟩
      rcases h with h | h
      · rw [Oper.semAt_eq _ _ o (noDefer_at hd hi)]
        exact upon_round hk h
      · exact absurd h.2 NoOut.not
    · rename_i hw
      rw [if_neg hw] at h
      exact ⟨fun _ _ => trivial, hk _ _ h⟩
theorem wpAny_round (hd : noDefer ops = true) : ∀ (fuel : Nat) (listed : Array Bool) (a : Act) (w : World), wpAny P md ops (NoOut Q) fuel listed a w → wpAnyIn (Fence.wide.inRound l) 0 P md ops Q fuel listed a w
  | 0, listed, a, w, h => h
  | fuel + 1, listed, a, w, h => ⟨h.1, fun i hi => wpOp_round hd (fun a w => wpAny_round hd fuel _ a w) (h.2 i hi)⟩

theorem wpInR_region_held {S : World → Prop} {id : Nat} (hd : noDefer ops = true) (hm : P.follows .mixedOrders = true) (hS : S w.drew)
    (h : S w.drew → wpAnyH P .any ops (NoOut Q) S ops.size (Array.replicate ops.size false) a w.drew) : (Code.region id ops true).wpIn (Fence.wide.inRound l) 0 P Q a w :=
  wpIn_region_any hm (wpAny_round hd _ _ _ _ (wpAny_of_held _ _ _ _ (h hS)))
end

end Go.Proofs.Ytpbgnidjgmmebaa

set_option linter.unusedSimpArgs false
set_option linter.unusedVariables false
namespace Go.Proofs.Ytpbgnidjgmmebaa
open Go.RowKit

section
variable {F : Fence} {n : Nat} {P : Program} {ops : Array Oper} {Q : Exit → Act → World → Prop} {md : Region.Mode} {S : World → Prop}

def YieldsF (P : Program) (ops : Array Oper) (S : World → Prop) (o : Oper) (v : Value) (a : Act) : Prop := YieldsIf P ops S o v a ∧ ∀ w, o.about P w a.eval = none

theorem YieldsF.wpOpIn {i : Nat} {o : Oper} {v : Value} {a : Act} (hd : noDefer ops = true) (hi : ops[i]? = some o) (hy : YieldsF P ops S o v a)
    {K : Act → World → Prop} {w : World} (hS : S w) (h : K (a.put o.dst v) w) : wpOpIn F n P ops Q i K a w := by
  unfold Go.wpOpIn
  simp only [hi]
  have hab : ∀ f, o.about P w a.eval = some f → F.fn f := fun f hf => by rw [hy.2 w] at hf; cases hf
  rcases hy.1 with ⟨hw, hv⟩ | ⟨hw, rfl⟩
  · simp only [hw, if_true, Oper.wpIn]
    rw [Oper.semAt_eq _ _ o (noDefer_at hd hi), hv w hS]
    exact ⟨hab, h⟩
  · simp only [hw, Bool.false_eq_true, if_false]; exact ⟨hab, h⟩

theorem YieldsF.of_same {o : Oper} {v : Value} {a a' : Act} (hy : YieldsF P ops S o v a) (he : execOp a'.eval o = execOp a.eval o)
    (hw : Region.wanted o (yielded ops a'.tmps) = Region.wanted o (yielded ops a.tmps)) (hb : ∀ w, o.about P w a'.eval = o.about P w a.eval) : YieldsF P ops S o v a' :=
  ⟨hy.1.of_same he hw, fun w => by rw [hb w]; exact hy.2 w⟩

theorem wpOpIn_putF {j : Nat} {oi oj : Oper} {v : Value} (hd : noDefer ops = true) (hj : ops[j]? = some oj) (hap : oi.apart ops oj = true)
    (hsi : ∀ cs b, oi.op ≠ .select cs b) (hsj : ∀ cs b, oj.op ≠ .select cs b)
    (hQ : ∀ c a w, Q (.panic c) (a.put oi.dst v) w → Q (.panic c) a w) {K : Act → World → Prop} {a : Act} {w : World}
    (hy : YieldsF P ops S oi v a) (h : wpOpIn F n P ops Q j K (a.put oi.dst v) w) :
    wpOpIn F n P ops Q j (fun a' w' => YieldsF P ops S oi v a' ∧ K (a'.put oi.dst v) w') a w := by
  obtain ⟨h1, h2, h3⟩ := Oper.apart_spec hap
  have keep : ∀ (a : Act), YieldsF P ops S oi v a → ∀ u, YieldsF P ops S oi v (a.put oj.dst u) := fun a hy u =>
    hy.of_same (execOp_put oi hsi a oj.dst u h3) (wanted_put oi a oj.dst u h3) (fun w => about_put oi w a oj.dst u h3)
  have keepD : ∀ d, YieldsF P ops S oi v { a with defers := d :: a.defers } := fun d => hy.of_same rfl rfl (fun _ => rfl)
  have hnd := noDefer_at hd hj
  unfold Go.wpOpIn at *
  simp only [hj] at *
  rw [wanted_put oj a oi.dst v h1, about_put oj w a oi.dst v h1] at h
  split
  · rename_i hw
    simp only [hw, if_true] at h
    unfold Oper.wpIn at *
    rw [about_put oj w a oi.dst v h1] at h
    refine ⟨h.1, ?_⟩
    have h := h.2
    rw [Oper.semAt_eq _ _ oj hnd, execOp_put oj hsj a oi.dst v h1] at h
    rw [Oper.semAt_eq _ _ oj hnd]
    generalize (execOp a.eval oj).run P w = r at *
    cases r with
    | ok x w' =>
      cases x <;> simp only [Oper.uponIn] at h ⊢
      case value u => exact ⟨keep a hy u, by rw [← Act.put_comm a v u h2]; exact h⟩
      case skip => exact ⟨keep a hy _, by rw [← Act.put_comm a v undef h2]; exact h⟩
      case defer d =>
        refine ⟨keep _ (keepD d) _, ?_⟩
        rw [← Act.put_comm _ v undef h2, ← Act.put_defers]
        exact h
      case enter f args =>
        refine ⟨h.1, CallsIn.mono h.2 fun e w'' he => ?_⟩
        cases e with
        | returned u => exact ⟨keep a hy u, by rw [← Act.put_comm a v u h2]; exact he⟩
        | panicked c => exact hQ _ _ _ he
        | outgrown => exact he
      case row row args => exact ⟨h.1, RowsIn.mono h.2 fun u w'' he => ⟨keep a hy u, by rw [← Act.put_comm a v u h2]; exact he⟩⟩
      case round l f tmps assign body =>
        refine ⟨h.1, RoundIn.mono h.2 fun e w'' he => ?_⟩
        cases e with
        | returned u => exact ⟨keep a hy u, by rw [← Act.put_comm a v u h2]; exact he⟩
        | panicked c => exact hQ _ _ _ he
        | outgrown => exact he
    | halt x w' =>
      cases x <;> simp only [Oper.uponIn] at h ⊢
      case panic u => exact hQ _ _ _ h
  · rename_i hw
    simp only [hw] at h
    exact ⟨h.1, keep a hy _, by rw [← Act.put_comm a v undef h2]; exact h.2⟩

/-- Whatever order is picked from here on, and S holds behind every operation that is carried out. -/
def wpAnyHF (F : Fence) (n : Nat) (P : Program) (md : Region.Mode) (ops : Array Oper) (Q : Exit → Act → World → Prop) (S : World → Prop) : Nat → Array Bool → Act → World → Prop
  | 0, listed, a, w => Region.ready md ops listed = [] ∧ Q .normal a w
  | fuel + 1, listed, a, w =>
    (Region.ready md ops listed = [] → Q .normal a w) ∧
    ∀ i ∈ Region.ready md ops listed, wpOpIn F n P ops Q i (fun a' w' => S w' ∧ wpAnyHF F n P md ops Q S fuel (listed.setIfInBounds i true) a' w') a w

theorem wpAnyIn_of_heldF : ∀ (fuel : Nat) (listed : Array Bool) (a : Act) (w : World), wpAnyHF F n P md ops Q S fuel listed a w → wpAnyIn F n P md ops Q fuel listed a w
  | 0, _, _, _, h => h
  | fuel + 1, _, _, _, h => ⟨h.1, fun i hi => wpOpIn_mono (fun a' w' h' => wpAnyIn_of_heldF fuel _ a' w' h'.2) (h.2 i hi)⟩

theorem wpAnyHF_first {i : Nat} {oi : Oper} {v : Value} (hd : noDefer ops = true) (hi : ops[i]? = some oi) (hsel : ∀ (j : Nat) (o : Oper) cs b, ops[j]? = some o → o.op ≠ .select cs b)
    (hQ : ∀ c a w, Q (.panic c) (a.put oi.dst v) w → Q (.panic c) a w) :
    ∀ (fuel : Nat) (listed : Array Bool) (a : Act) (w : World),
      (∀ j oj, ops[j]? = some oj → j ≠ i → listed.getD j true = false → (∀ e ∈ oj.after, Region.binds md e = true → e.on ≠ i) → oi.apart ops oj = true) →
      i ∈ Region.ready md ops listed → YieldsF P ops S oi v a → S w →
      wpAnyHF F n P md ops Q S fuel (listed.setIfInBounds i true) (a.put oi.dst v) w → wpAnyHF F n P md ops Q S (fuel + 1) listed a w := by
  intro fuel
  induction fuel with
  | zero =>
    intro listed a w _ hr hy hS H
    refine ⟨fun h => (by rw [h] at hr; cases hr), fun j hj => ?_⟩
    by_cases hji : j = i
    · subst hji; exact hy.wpOpIn hd hi hS ⟨hS, H⟩
    · have := ready_mono hj hji
      rw [H.1] at this
      cases this
  | succ fuel ih =>
    intro listed a w hfree hr hy hS H
    refine ⟨fun h => (by rw [h] at hr; cases hr), fun j hj => ?_⟩
    by_cases hji : j = i
    · subst hji; exact hy.wpOpIn hd hi hS ⟨hS, H⟩
    · have h1 := H.2 j (ready_mono hj hji)
      obtain ⟨hjun, oj, hoj, hall⟩ := mem_ready.1 hj
      have hnot : ∀ e ∈ oj.after, Region.binds md e = true → e.on ≠ i := fun e he hb heq => by
        have h1 := hall e he hb
        have h0 := (mem_ready.1 hr).1
        rw [heq] at h1
        rcases Nat.lt_or_ge i listed.size with h' | h'
        · simp [h'] at h0 h1; rw [h0] at h1; cases h1
        · simp [Array.getElem?_eq_none h'] at h1
      have h2 := wpOpIn_putF hd hoj (hfree j oj hoj hji hjun hnot) (fun cs b => hsel i oi cs b hi) (fun cs b => hsel j oj cs b hoj) hQ hy h1
      have hfree' : ∀ k ok, ops[k]? = some ok → k ≠ i → (listed.setIfInBounds j true).getD k true = false →
          (∀ e ∈ ok.after, Region.binds md e = true → e.on ≠ i) → oi.apart ops ok = true := fun k ok hk hki hun hno => by
        refine hfree k ok hk hki ?_ hno
        by_cases hjk : j = k
        · subst hjk; exact hjun
        · rw [getD_set_ne true hjk] at hun; exact hun
      refine wpOpIn_mono (fun a' w' h3 => ⟨h3.2.1, ih (listed.setIfInBounds j true) a' w' hfree' (ready_mono hr (Ne.symm hji)) h3.1 h3.2.1 ?_⟩) h2
      rw [Array.setIfInBounds_comm _ _ hji]
      exact h3.2.2

theorem wpAnyHF_take {i : Nat} {oi : Oper} {v : Value} {fuel : Nat} {listed : Array Bool} {a : Act} {w : World} (hd : noDefer ops = true) (hi : ops[i]? = some oi)
    (hs : Region.noSelect ops = true) (hf : Region.free md ops listed i = true) (hr : (Region.ready md ops listed).contains i = true)
    (hQ : ∀ c a w, Q (.panic c) (a.put oi.dst v) w → Q (.panic c) a w) (hy : YieldsIf P ops S oi v a) (hb : ∀ w, oi.about P w a.eval = none) (hS : S w)
    (h : wpAnyHF F n P md ops Q S fuel (listed.setIfInBounds i true) (a.put oi.dst v) w) : wpAnyHF F n P md ops Q S (fuel + 1) listed a w :=
  wpAnyHF_first hd hi (Region.noSelect_spec hs) hQ fuel listed a w (Region.free_spec hi hf) (by simpa using hr) ⟨hy, hb⟩ hS h

theorem wpAnyHF_done {listed : Array Bool} {a : Act} {w : World} (hr : Region.ready md ops listed = []) (h : Q .normal a w) :
    ∀ fuel, wpAnyHF F n P md ops Q S fuel listed a w
  | 0 => ⟨hr, h⟩
  | _ + 1 => ⟨fun _ => h, by rw [hr]; simp⟩

def AllReadyHF (F : Fence) (n : Nat) (P : Program) (md : Region.Mode) (ops : Array Oper) (Q : Exit → Act → World → Prop) (S : World → Prop) (fuel : Nat) (listed : Array Bool) (a : Act) (w : World) (rs : List Nat) : Prop :=
  ∀ i ∈ rs, wpOpIn F n P ops Q i (fun a' w' => S w' ∧ wpAnyHF F n P md ops Q S fuel (listed.setIfInBounds i true) a' w') a w
theorem AllReadyHF.nil {fuel : Nat} {listed : Array Bool} {a : Act} {w : World} : AllReadyHF F n P md ops Q S fuel listed a w [] := fun _ h => by cases h
theorem AllReadyHF.cons {fuel : Nat} {listed : Array Bool} {a : Act} {w : World} {i : Nat} {o : Oper} {rs : List Nat} (ho : ops[i]? = some o)
    (h : ∀ K' : Act → World → Prop, Shut (∀ a w, S w → (S w → wpAnyHF F n P md ops Q S fuel (listed.setIfInBounds i true) a w) → K' a w) → if Region.wanted o (yielded ops a.tmps) = true then Oper.wpIn F n P o a w K' Q else (∀ f, o.about P w a.eval = some f → F.fn f) ∧ K' (a.put o.dst undef) w)
    (hs : AllReadyHF F n P md ops Q S fuel listed a w rs) : AllReadyHF F n P md ops Q S fuel listed a w (i :: rs) := fun j hj => by
  rcases List.mem_cons.1 hj with rfl | hj
  · exact wpOpIn_step ho (fun K' hK => h K' (fun a w hS hW => hK a w ⟨hS, hW hS⟩))
  · exact hs j hj
theorem wpAnyHF_ready {rs : List Nat} {fuel : Nat} {listed : Array Bool} {a : Act} {w : World} (hr : Region.ready md ops listed = rs) (hne : rs ≠ [])
    (h : AllReadyHF F n P md ops Q S fuel listed a w rs) : wpAnyHF F n P md ops Q S (fuel + 1) listed a w :=
  ⟨fun h0 => absurd (hr ▸ h0) hne, hr ▸ h⟩
theorem wpIn_region_heldF {id : Nat} {a : Act} {w : World} (hm : P.follows .mixedOrders = true) (hS : S w.drew)
    (h : S w.drew → wpAnyHF F n P .any ops Q S ops.size (Array.replicate ops.size false) a w.drew) : (Code.region id ops true).wpIn F n P Q a w :=
  wpIn_region_any hm (wpAnyIn_of_heldF _ _ _ _ (h hS))
end

end Go.Proofs.Ytpbgnidjgmmebaa

set_option linter.unusedSimpArgs false
set_option linter.unusedVariables false
namespace Go.Proofs.Ytpbgnidjgmmebaa
open Go.RowKit Go.Shelf

theorem OwnA.cap_ {w : World} {B : Nat} {v : Value} {L : List Arc3} (h : OwnA w B v L) : ∀ A l c, v = .slice A l c → L.length ≤ c := fun A l c ev => by
  subst ev
  have h' : w.ownsRow B 34 3 (.slice A l c) L.length (cs3 L) := h
  rcases h'.2 with ⟨e, h0⟩ | ⟨g, cap, cur, e, hB, hg, hnc, -⟩
  · injection e with e1 e2 e3
    omega
  · injection e with e1 e2 e3
    omega

/-- What the iterator reads: the graph, in a box. -/
structure SIn (w : World) (gb : Nat) (q : Nat) (A : Option Addr) (n c : Nat) (L : List Arc3) : Prop where
  size : w.cell? ⟨gb, 0, none⟩ = some (.int .i64 (q : Int))
  list : w.cell? ⟨gb, 1, none⟩ = some (.slice A n c)
  arcs : ArcsAt w w.heap.size A L
def sBlocks (gb : Nat) (A : Option Addr) (L : List Arc3) (i : Nat) : Prop := i = gb ∨ (0 < L.length ∧ blockOf A = some i)
theorem SIn.turn {w w' : World} {gb q : Nat} {A : Option Addr} {n c : Nat} {L : List Arc3} (h : SIn w gb q A n c L) {S : Nat → Prop} (t : Turn S w w') (hS : ∀ i, S i → ¬ sBlocks gb A L i) : SIn w' gb q A n c L := by
  have l1 := World.block_lt_of_cell? _ _ h.size
  have s1 : ¬ S gb := fun e => hS _ e (.inl rfl)
  exact ⟨(t.cells l1 s1 0).1.trans h.size, (t.cells l1 s1 1).1.trans h.list, (h.arcs.turn (Nat.le_refl _) t (fun hl g hg e => hS g e (.inr ⟨hl, hg⟩))).more t.size⟩
theorem sBlocks_lt {w : World} {gb q : Nat} {A : Option Addr} {n c : Nat} {L : List Arc3} (h : SIn w gb q A n c L) {i : Nat} (hi : sBlocks gb A L i) : i < w.heap.size := by
  rcases hi with rfl | ⟨hl, hi⟩
  · exact World.block_lt_of_cell? _ _ h.size
  · obtain ⟨g, off, rfl, hg, -⟩ := h.arcs hl
    have : g = i := by simpa [blockOf] using hi
    omega

theorem mark_ne {ds : List Deferred} {Ds : List Nat} {w : World} (h : MarksD ds Ds w) {D b o : Nat} (hD : D ∈ Ds) {v : Value} (hc : w.cell? ⟨b, o, none⟩ = some v) : D ≠ b := by
  rintro rfl
  have := h.here D hD
  simp [World.cell?, this] at hc

/-- What stays while the iterator runs. -/
structure SQ (W : World) (K0 : Nat → Prop) (l gb b3 b4 q : Nat) (A : Option Addr) (n c : Nat) (L : List Arc3) (E F : List Int) (Ko : Nat → Prop) (wr : World) : Prop where
  y : wr.cell? ⟨W.heap.size, 0, none⟩ = some (.func (.yield l) #[] #[])
  t3 : ManyAt wr b3 E
  t4 : ManyAt wr b4 F
  inn : SIn wr gb q A n c L
  no : ¬ Ko W.heap.size ∧ ¬ Ko b3 ∧ ¬ Ko b4
  nb : ∀ i, Ko i → ¬ sBlocks gb A L i
  step : Step K0 Ko W wr
section
variable {W : World} {K0 : Nat → Prop} {l gb b3 b4 q : Nat} {A : Option Addr} {n c : Nat} {L : List Arc3} {E F : List Int} {Ko Ko' : Nat → Prop} {wr w' : World}
theorem SQ.bl (h : SQ W K0 l gb b3 b4 q A n c L E F Ko wr) (b : Bl wr w') : SQ W K0 l gb b3 b4 q A n c L E F Ko w' := by
  have ly := World.block_lt_of_cell? _ _ h.y
  exact ⟨((bcell b).1 _ _ ly).trans h.y, h.t3.bl b, h.t4.bl b, h.inn.turn (Turn.of_bl (S := fun _ => False) b) (fun _ h => h.elim), h.no, h.nb, h.step.trans ⟨Turn.of_bl b, fun i hi => .inl hi⟩⟩
/-- Behind a change to blocks of S, where what lies in some of them is known again. -/
theorem SQ.after (h : SQ W K0 l gb b3 b4 q A n c L E F Ko wr) {S : Nat → Prop} (t : Turn S wr w') (h4 : ¬ S b4) (hb : ∀ i, S i → ¬ sBlocks gb A L i) (hS : ∀ i, S i → K0 i ∨ W.heap.size ≤ i)
    (y' : w'.cell? ⟨W.heap.size, 0, none⟩ = some (.func (.yield l) #[] #[])) (t3' : ManyAt w' b3 E) (mon : ∀ i, Ko' i → Ko i ∨ wr.heap.size ≤ i) : SQ W K0 l gb b3 b4 q A n c L E F Ko' w' := by
  have ly := World.block_lt_of_cell? _ _ h.y
  have l3 := h.t3.lt
  have l4 := h.t4.lt
  simp only at ly
  refine ⟨y', t3', h.t4.turn t h4, h.inn.turn t hb, ⟨fun e => ?_, fun e => ?_, fun e => ?_⟩, fun i hi hs => ?_, ⟨h.step.1.trans t (fun i hi hs => (hS i hs).resolve_right (by omega)), fun i hi => ?_⟩⟩
  · rcases mon _ e with e | e
    · exact h.no.1 e
    · omega
  · rcases mon _ e with e | e
    · exact h.no.2.1 e
    · omega
  · rcases mon _ e with e | e
    · exact h.no.2.2 e
    · omega
  · rcases mon _ hi with e | e
    · exact h.nb i e hs
    · have := sBlocks_lt h.inn hs; omega
  · rcases mon _ hi with e | e
    · exact h.step.2 i e
    · exact .inr (Nat.le_trans h.step.1.size e)
end

/-- What the body of a round reads. -/
structure RQ (yb l b3 b5 b6 s t : Nat) (E : List Int) (Ko : Nat → Prop) (B6 : Nat) (Kp : Nat → Prop) (w : World) : Prop where
  y : w.cell? ⟨yb, 0, none⟩ = some (.func (.yield l) #[] #[])
  t3 : ManyAt w b3 E
  c5 : w.cell? ⟨b5, 0, none⟩ = some (.int .i64 (s : Int))
  c6 : w.cell? ⟨b6, 0, none⟩ = some (.int .i64 (t : Int))
  no : ¬ Kp yb ∧ ¬ Kp b3 ∧ ¬ Kp b5 ∧ ¬ Kp b6
  mon : ∀ i, Kp i → Ko i ∨ B6 ≤ i
  low : B6 ≤ w.heap.size
section
variable {yb l b3 b5 b6 s t : Nat} {E : List Int} {Ko : Nat → Prop} {B6 : Nat} {Kp Kp' : Nat → Prop} {w w' : World}
theorem RQ.keep (h : RQ yb l b3 b5 b6 s t E Ko B6 Kp w) {S : Nat → Prop} (k : Turn S w w') (hS : ¬ S yb ∧ ¬ S b3 ∧ ¬ S b5 ∧ ¬ S b6) : RQ yb l b3 b5 b6 s t E Ko B6 Kp w' :=
  ⟨(k.cells (World.block_lt_of_cell? _ _ h.y) hS.1 0).1.trans h.y, h.t3.turn k hS.2.1, (k.cells (World.block_lt_of_cell? _ _ h.c5) hS.2.2.1 0).1.trans h.c5, (k.cells (World.block_lt_of_cell? _ _ h.c6) hS.2.2.2 0).1.trans h.c6, h.no, h.mon, Nat.le_trans h.low k.size⟩
theorem RQ.bl (h : RQ yb l b3 b5 b6 s t E Ko B6 Kp w) (k : Bl w w') : RQ yb l b3 b5 b6 s t E Ko B6 Kp w' := h.keep (Turn.of_bl (S := fun _ => False) k) ⟨id, id, id, id⟩
theorem RQ.step (h : RQ yb l b3 b5 b6 s t E Ko B6 Kp w) (k : Step Kp Kp' w w') : RQ yb l b3 b5 b6 s t E Ko B6 Kp' w' := by
  obtain ⟨a1, a2, a3, a4, -, -, -⟩ := h.keep k.1 h.no
  obtain ⟨n1, n2, n3, n4⟩ := h.no
  refine ⟨a1, a2, a3, a4, ⟨k.out (World.block_lt_of_cell? _ _ h.y) n1, k.out h.t3.lt n2, k.out (World.block_lt_of_cell? _ _ h.c5) n3, k.out (World.block_lt_of_cell? _ _ h.c6) n4⟩, fun i hi => ?_, Nat.le_trans h.low k.1.size⟩
  rcases k.2 i hi with e | e
  · exact h.mon i e
  · exact .inr (Nat.le_trans h.low e)
end
theorem split_yield {e : Ending} {A B : Prop} (h : (e = .returned (.bool true) ∧ A) ∨ (e = .returned (.bool false) ∧ B)) : ∃ bb : Bool, e = .returned (.bool bb) ∧ (bb = true → A) ∧ (bb = false → B) := by
  rcases h with ⟨h1, h2⟩ | ⟨h1, h2⟩
  · exact ⟨true, h1, fun _ => h2, (fun h => by cases h)⟩
  · exact ⟨false, h1, (fun h => by cases h), fun _ => h2⟩
/-- A row of a table reads as the distances do. -/
def rowAt (E : List Int) (s : Nat) : List Int := (E.drop (s * 24)).take 24
theorem rowAt_len {E : List Int} {s : Nat} (hE : E.length = 576) (hs : s < 24) : (rowAt E s).length = 24 := by
  unfold rowAt
  rw [List.length_take, List.length_drop]
  omega
theorem rowAt_dist {q s : Nat} {L : List Arc3} {E : List Int} (h : IsTable q L q E) (hs : s < q) (hq : q ≤ 24) (v : Int) (h0 : 0 ≤ v) (h1 : v < (q : Int)) : dAt (rowAt E s) v = dAt (distL q L (s : Int)) v := by
  obtain ⟨u, rfl⟩ : ∃ u : Nat, v = u := ⟨v.toNat, by omega⟩
  have hl := rowAt_len (s := s) h.1 (by omega)
  rw [dAt_at (by rw [hl]; omega), ← h.2 s u hs h1]
  unfold rowAt
  rw [List.getElem_take, List.getElem_drop, getD_at (by rw [h.1]; omega)]
theorem rows_pass {q s t : Nat} {L : List Arc3} {E F : List Int} (hE : IsTable q L q E) (hF : IsTable q (revL L) q F) (hs : s < q) (ht : t < q) (hq : q ≤ 24) : passK (rowAt E s) (rowAt F t) q = passK (distL q L (s : Int)) (distL q (revL L) (t : Int)) q :=
  passK_same (fun v h0 h1 => rowAt_dist hE hs hq v h0 h1) (fun v h0 h1 => rowAt_dist hF ht hq v h0 h1)
theorem selST_rows {q s t : Nat} {L : List Arc3} {E F : List Int} (hE : IsTable q L q E) (hF : IsTable q (revL L) q F) (hs : s < q) (ht : t < q) (hq : q ≤ 24) : selST q L (s : Int) (t : Int) = selE (dAt (distL q L (s : Int)) (t : Int)) (passK (rowAt E s) (rowAt F t) q) := by
  rw [rows_pass hE hF hs ht hq]
  unfold selST
  simp
theorem selE_append (m : Int) (a b : List Arc3) : selE m (a ++ b) = selE m a ++ selE m b := List.filter_append _ _

end Go.Proofs.Ytpbgnidjgmmebaa
