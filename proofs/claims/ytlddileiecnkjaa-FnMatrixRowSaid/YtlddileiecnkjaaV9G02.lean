/-
  What is proved here: a range over a function whose iterator keeps a state of its own in memory: a law for the statement, where a contract of the iterator is given; arrays of 24 numbers, in blocks of their own; a whole array is loaded and stored by laws; contracts of the laws' small functions on slices of numbers; toInt64S makes new memory that reads as what it is handed; what a slice of numbers that comes in is made of; words on memory that reads as a list of lists of numbers; the laws' small functions on halves. No conditions beyond those that each theorem states.
-/
import Derived.Test.YtlddileiecnkjaaV9G01
import Derived.RangeFuncNested
import Derived.RangeFuncBound
import Derived.RangeFuncCalls
import Derived.RangeFuncLeaves
import Derived.Shelf.Abstract
import Derived.Shelf.RegionOpen
import Derived.OwnWalkIn
import Derived.TacticsInMore
import Derived.LoopNIn
import Derived.LoopIn
import Derived.Deep.MidRow
import Derived.Laws.Rows
import Derived.Test.YtlddileiecnkjaaV9Z0
set_option linter.unusedSimpArgs false
set_option linter.unusedVariables false
namespace Go.Proofs.Ytlddileiecnkjaa
open Go.RowKit

/-- A change that is made to blocks of K alone, and to new ones; what of them is still held is K'. -/
def Step (K K' : Nat → Prop) (w w' : World) : Prop := Turn K w w' ∧ ∀ i, K' i → K i ∨ w.heap.size ≤ i
theorem Step.refl (K : Nat → Prop) (w : World) : Step K K w w := ⟨Turn.refl _ _, fun i h => .inl h⟩
theorem Step.trans {K1 K2 K3 : Nat → Prop} {a b c : World} (h : Step K1 K2 a b) (k : Step K2 K3 b c) : Step K1 K3 a c :=
  ⟨h.1.trans k.1 (fun i hi h2 => (h.2 i h2).resolve_right (by omega)), fun i hi => by
    rcases k.2 i hi with h' | h'
    · exact h.2 i h'
    · exact .inr (Nat.le_trans h.1.size h')⟩
theorem Step.out {K K' : Nat → Prop} {w w' : World} (h : Step K K' w w') {i : Nat} (hi : i < w.heap.size) (hn : ¬ K i) : ¬ K' i := fun h' => (h.2 i h').elim hn (by omega)

/-- The contract of an iterator. J: what its caller holds between two rounds, and the blocks that it holds it in: of these the iterator turns none. Jx: the same where a round has said that it wants no more. -/
def SeqT {α : Type} (P : Program) (gf : Nat) (lb : Array Value) (encs : α → Array Value) (Pre : List α → α → Prop) (S Sp : List α → Prop) (In : Nat → Prop) (w0 : World) : Prop :=
  ∀ (l : Nat) (J Jx : List α → (Nat → Prop) → World → Prop) (K : Nat → Prop) (W : World), Bl w0 W → (∀ i, K i → ¬ In i) →
    (∀ pre K A B, J pre K A → Turn (fun i => ¬ K i) A B → J pre K B) →
    (∀ pre K A B, Jx pre K A → Turn (fun i => ¬ K i) A B → Jx pre K B) →
    (∀ pre K A, J pre K A → ∀ i, K i → i < A.heap.size) →
    (∀ pre x K W1, J pre K W1 → Pre pre x → YieldAt Fence.wide 0 P l (encs x) W1 fun e W' => ∃ K', Step K K' W1 W' ∧
      ((e = .returned (.bool true) ∧ J (pre ++ [x]) K' W') ∨ (e = .returned (.bool false) ∧ Jx (pre ++ [x]) K' W'))) →
    J [] K W →
    CallsIn Fence.wide 0 P gf (#[.func (.yield l) #[] #[]] ++ lb) W fun e W' => (∃ v, e = .returned v) ∧ ∃ K', Step K K' W W' ∧ ((∃ xs, S xs ∧ J xs K' W') ∨ (∃ pre, Sp pre ∧ Jx pre K' W'))

/-- How the body of a round may be left. -/
def turnPost {α : Type} (I : List α → (Nat → Prop) → World → Prop) (Ix : Code → List α → (Nat → Prop) → World → Prop) (K : Nat → Prop) (xs : List α) (W : World) : Exit → Act → World → Prop
  | .normal, _, W' => ∃ K', Step K K' W W' ∧ I xs K' W'
  | .ret, _, W' => ∃ K', Step K K' W W' ∧ Ix .ret xs K' W'
  | .exit id, _, W' => ∃ K', Step K K' W W' ∧ Ix (.exit id) xs K' W'
  | .goto t, _, W' => ∃ K', Step K K' W W' ∧ Ix (.goto t) xs K' W'
  | .panic _, _, _ => False
  | .outgrown, _, _ => False

theorem turn_put (S : Nat → Prop) (W : World) {l : Nat} (o : Obj) (hl : S l) : Turn S W (W.putObj l o) :=
  Turn.of_grown (grownBy_putObj' W l o) (fun k e => by cases e; exact hl)

/-- The blocks of the caller, without the two of the statement's own. -/
def less2 (K : Nat → Prop) (l D : Nat) (i : Nat) : Prop := K i ∧ i ≠ l ∧ i ≠ D
def more2 (K : Nat → Prop) (l D : Nat) (i : Nat) : Prop := K i ∨ i = l ∨ i = D
theorem less_more {K : Nat → Prop} {l D : Nat} (hl : ¬ K l) (hD : ¬ K D) : less2 (more2 K l D) l D = K := by
  funext i
  apply propext
  unfold less2 more2
  constructor
  · rintro ⟨h | h | h, h1, h2⟩
    · exact h
    · exact absurd h h1
    · exact absurd h h2
  · intro h
    exact ⟨.inl h, fun e => hl (e ▸ h), fun e => hD (e ▸ h)⟩

variable {P : Program}
set_option maxHeartbeats 1000000 in
theorem wpIn_range {α : Type} {g : Operand} {ps : Array Tmp} {assign body : Code} {Q : Exit → Act → World → Prop} {a : Act} {w : World} {gf : Nat} {lb : Array Value}
    (hg : a.eval g = .func (.func gf) #[] lb) (eg : ∀ args w, (callFunc gf args).run P w = .ok (.enter gf args) w)
    {encs : α → Array Value} {Pre : List α → α → Prop} {S Sp : List α → Prop} {In : Nat → Prop} {w0 : World} (hseq : SeqT P gf lb encs Pre S Sp In w0) (hb0 : Bl w0 w) (hIn : ∀ i, In i → i < w.heap.size) (hps : ∀ x, (encs x).size = ps.size)
    (I : List α → (Nat → Prop) → World → Prop) (Ix : Code → List α → (Nat → Prop) → World → Prop) (M : List α → α → Act → (Nat → Prop) → World → Prop) (K0 : Nat → Prop) (hK0 : ∀ i, K0 i → ¬ In i)
    (hI : ∀ pre K A B, I pre K A → Turn (fun i => ¬ K i) A B → I pre K B) (hIx : ∀ c pre K A B, Ix c pre K A → Turn (fun i => ¬ K i) A B → Ix c pre K B)
    (hM : ∀ pre x a K A B, M pre x a K A → Turn (fun i => ¬ K i) A B → M pre x a K B)
    (hlt : ∀ pre K A, I pre K A → ∀ i, K i → i < A.heap.size) (h0 : I [] K0 w)
    (hassign : ∀ (l : Nat) (pre : List α) (x : α) (K : Nat → Prop) (W : World) (R : Act → World → Prop), I pre K W → Pre pre x → (∀ a₁ K1 W1, Step K K1 W W1 → M pre x a₁ K1 W1 → R a₁ W1) →
      assign.wpIn (Fence.wide.inRound l) 0 P (Exit.then R (fun _ _ _ => False)) { tmps := (ps.zip (encs x)).foldl (fun t (p, v) => t.setIfInBounds p v) a.tmps, defers := [] } W)
    (hbody : ∀ (l : Nat) (pre : List α) (x : α) (a₁ : Act) (K : Nat → Prop) (W : World), M pre x a₁ K W → Pre pre x → body.wpIn (Fence.wide.inRound l) 0 P (turnPost I Ix K (pre ++ [x]) W) a₁ W)
    (hdone : ∀ (D : Nat) (xs : List α) (K : Nat → Prop) (W : World), w.heap.size ≤ D → S xs → I xs K W → Turn K0 w W → ¬ K D → W.heap[D]? = some (.deferred (some [])) → Q .normal { a with defers := { target := .collected D, args := #[] } :: a.defers } W)
    (hstop : ∀ (D : Nat) (c : Code) (pre : List α) (K : Nat → Prop) (W : World), w.heap.size ≤ D → Sp pre → Ix c pre K W → Turn K0 w W → ¬ K D → W.heap[D]? = some (.deferred (some [])) → c.wpIn Fence.wide 0 P Q { a with defers := { target := .collected D, args := #[] } :: a.defers } W) :
    (Code.rangeFunc g ps assign body).wpIn Fence.wide 0 P Q a w := by
  refine wpIn_rangeFunc fun fn hfn => ?_
  obtain ⟨rec, hrec⟩ : ∃ rec : LoopState → Option Code → Loop, rec = fun st pe => { state := st, pending := pe, fn, tmps := a.tmps, params := ps, assign, body, defers := w.heap.size } := ⟨_, rfl⟩
  generalize hlD : w.heap.size + 1 = l
  generalize hDD : w.heap.size = D
  have hk0 := hlt [] K0 w h0
  have hKl : ¬ K0 l := fun h => by have := hk0 l h; omega
  have hKD : ¬ K0 D := fun h => by have := hk0 D h; omega
  obtain ⟨W1, hW1⟩ : ∃ W1, W1 = (w.alloc (.deferred (some []))).alloc (.loop (rec .ready none)) := ⟨_, rfl⟩
  have hrl : W1.heap[l]? = some (.loop (rec .ready none)) := by
    have := World.alloc_heap_new (w.alloc (.deferred (some []))) (.loop (rec .ready none))
    rwa [World.size_alloc, hlD, ← hW1] at this
  have hrD : W1.heap[D]? = some (.deferred (some [])) := by
    have h1 := Below.heap_alloc (w.alloc (.deferred (some []))) (.loop (rec .ready none)) D (by simp; omega)
    rw [hW1, h1, ← hDD]
    exact World.alloc_heap_new w _
  have hB1 : Bl w W1 := by rw [hW1]; exact ((Bl.refl w).alloc_ _).alloc_ _
  have hs1 : W1.heap.size = w.heap.size + 2 := by rw [hW1]; simp
  obtain ⟨J, hJ⟩ : ∃ J : List α → (Nat → Prop) → World → Prop, J = fun pre K W => I pre (less2 K l D) W ∧ (K l ∧ K D) ∧ W.heap[l]? = some (.loop (rec .ready none)) ∧ W.heap[D]? = some (.deferred (some [])) := ⟨_, rfl⟩
  obtain ⟨Jx, hJx⟩ : ∃ Jx : List α → (Nat → Prop) → World → Prop, Jx = fun pre K W => ∃ c, Ix c pre (less2 K l D) W ∧ (K l ∧ K D) ∧ W.heap[l]? = some (.loop (rec .done (some c))) ∧ W.heap[D]? = some (.deferred (some [])) := ⟨_, rfl⟩
  have wider : ∀ {K : Nat → Prop} {A B : World}, Turn (fun i => ¬ K i) A B → Turn (fun i => ¬ less2 K l D i) A B := fun h => h.more fun i _ hi h' => hi h'.1
  have old : ∀ {K : Nat → Prop} {A B : World} {i : Nat} {o : Obj}, Turn (fun i => ¬ K i) A B → K i → A.heap[i]? = some o → B.heap[i]? = some o := fun h hi ho =>
    (h.block _ (Array.getElem?_eq_some_iff.1 ho).1 (fun h' => h' hi)).trans ho
  refine ⟨l, [{ target := .collected D, args := #[] }], W1, { target := .fn (.func gf) lb, args := #[.func (.yield l) #[] #[]] }, W1, gf, #[.func (.yield l) #[] #[]] ++ lb, W1, ?_, ?_, fun _ _ => trivial, by simp [invoke, go_sem, eg], fun h => by simp [Fence.wide] at h, ?_⟩
  · have := run_enterLoop_outer (P := P) (w := w) fn a.tmps ps assign body
    rw [hW1, hrec, ← hlD, ← hDD]
    exact this
  · simp only [resolve, hg]
    simp [go_sem]
  · refine (hseq l J Jx (more2 K0 l D) W1 (hb0.trans_ hB1) (fun i hi h => by
      have := hIn i h
      rcases hi with hi | hi | hi
      · exact hK0 i hi h
      · omega
      · omega) ?_ ?_ ?_ ?_ ?_).mono ?_
    · rintro pre K A B hj ht
      rw [hJ] at hj ⊢
      exact ⟨hI _ _ _ _ hj.1 (wider ht), hj.2.1, old ht hj.2.1.1 hj.2.2.1, old ht hj.2.1.2 hj.2.2.2⟩
    · rintro pre K A B hj ht
      rw [hJx] at hj ⊢
      obtain ⟨c, h1, h2, h3, h4⟩ := hj
      exact ⟨c, hIx _ _ _ _ _ h1 (wider ht), h2, old ht h2.1 h3, old ht h2.2 h4⟩
    · rintro pre K A hj i hi
      rw [hJ] at hj
      by_cases e1 : i = l
      · subst e1; exact (Array.getElem?_eq_some_iff.1 hj.2.2.1).1
      · by_cases e2 : i = D
        · subst e2; exact (Array.getElem?_eq_some_iff.1 hj.2.2.2).1
        · exact hlt _ _ _ hj.1 i ⟨hi, e1, e2⟩
    · rintro pre x K W hj hpre
      rw [hJ] at hj
      obtain ⟨hi, ⟨hkl, hkD⟩, hl, hd⟩ := hj
      have hll : l < W.heap.size := (Array.getElem?_eq_some_iff.1 hl).1
      have hne : D ≠ l := by omega
      have hy := run_yield (P := P) (args := encs x) hl (by rw [hrec]; exact hps x)
      rw [hrec] at hy
      have hn1 : ¬ less2 K l D l := fun h => h.2.1 rfl
      have hn2 : ¬ less2 K l D D := fun h => h.2.2 rfl
      have hDl : D < W.heap.size := by omega
      refine ⟨fn, _, assign, body, hy, roundIn_of_wpIn hfn (hassign l pre x _ W _ hi hpre fun a₁ K1 Wa hstA hma => ?_)⟩
      have hla := (hstA.1.block l hll hn1).trans hl
      have hda := (hstA.1.block D hDl hn2).trans hd
      have hlla : l < Wa.heap.size := (Array.getElem?_eq_some_iff.1 hla).1
      have hk1 : ¬ K1 l := hstA.out hll hn1
      have hk2 : ¬ K1 D := hstA.out hDl hn2
      refine ⟨_, run_beginRound hla (by rw [hrec]), ?_⟩
      obtain ⟨W2, hW2⟩ : ∃ W2, W2 = Wa.putObj l (.loop { rec .ready none with state := .busy }) := ⟨_, rfl⟩
      rw [← hW2]
      have hl2 : W2.heap[l]? = some (.loop { rec .ready none with state := .busy }) := by rw [hW2]; exact World.putObj_heap_same hlla
      have hd2 : W2.heap[D]? = some (.deferred (some [])) := by rw [hW2]; exact (World.putObj_heap_other hne).trans hda
      have hs2 : W2.heap.size = Wa.heap.size := by rw [hW2]; simp
      have hi2 : M pre x a₁ K1 W2 := by rw [hW2]; exact hM _ _ _ _ _ _ hma (turn_put _ _ _ hk1)
      have t2 : Turn K W W2 := by
        rw [hW2]
        exact (hstA.1.more fun i _ h => h.1).trans (turn_put (fun i => i = l) _ _ rfl) (fun i _ h => by rw [h]; exact hkl)
      have hKK : ∀ i, K1 i → K i ∨ W.heap.size ≤ i := fun i h => (hstA.2 i h).imp (fun h => h.1) id
      have hsA := hstA.1.size
      refine wpIn_mono (hbody l pre x a₁ K1 W2 hi2 hpre) ?_
      -- what the end of a round does
      have fin : ∀ (jump : Option Code) (K' : Nat → Prop) (W3 : World), Step K1 K' W2 W3 →
          (Instr.endRound l jump).run P W3 = .ok (.bool jump.isNone) (W3.putObj l (.loop (rec (if jump.isNone then .ready else .done) jump))) ∧
          Step K (more2 K' l D) W (W3.putObj l (.loop (rec (if jump.isNone then .ready else .done) jump))) ∧ less2 (more2 K' l D) l D = K' ∧ ¬ K' l ∧
          (W3.putObj l (.loop (rec (if jump.isNone then .ready else .done) jump))).heap[l]? = some (.loop (rec (if jump.isNone then .ready else .done) jump)) ∧
          (W3.putObj l (.loop (rec (if jump.isNone then .ready else .done) jump))).heap[D]? = some (.deferred (some [])) := by
        intro jump K' W3 hst
        have hl2' : l < W2.heap.size := by omega
        have hD2' : D < W2.heap.size := by omega
        have hl3 := (hst.1.block l hl2' hk1).trans hl2
        have hd3 := (hst.1.block D hD2' hk2).trans hd2
        have he := run_endRound (P := P) jump hl3
        rw [hrec] at he ⊢
        have hKl' := hst.out hl2' hk1
        have hKD' := hst.out hD2' hk2
        refine ⟨he, ⟨?_, fun i hi => ?_⟩, less_more hKl' hKD', hKl', World.putObj_heap_same (Array.getElem?_eq_some_iff.1 hl3).1, (World.putObj_heap_other hne).trans hd3⟩
        · exact (t2.trans hst.1 (fun i hi h => (hKK i h).resolve_right (by omega))).trans (turn_put (fun i => i = l) _ _ rfl) (fun i _ h => by rw [h]; exact hkl)
        · rcases hi with hi | hi | hi
          · rcases hst.2 i hi with h | h
            · exact hKK i h
            · exact .inr (by omega)
          · exact .inl (hi ▸ hkl)
          · exact .inl (hi ▸ hkD)
      rintro e a3 W3 hp
      cases e with
      | normal =>
        obtain ⟨K', hst, hi3⟩ := hp
        obtain ⟨f1, f2, f3, f4, f5, f6⟩ := fin none K' W3 hst
        refine ⟨_, _, f1, more2 K' l D, f2, .inl ⟨rfl, ?_⟩⟩
        rw [hJ]
        exact ⟨by rw [f3]; exact hI _ _ _ _ hi3 (turn_put _ _ _ f4), ⟨.inr (.inl rfl), .inr (.inr rfl)⟩, f5, f6⟩
      | ret =>
        obtain ⟨K', hst, hi3⟩ := hp
        obtain ⟨f1, f2, f3, f4, f5, f6⟩ := fin (some .ret) K' W3 hst
        refine ⟨_, _, f1, more2 K' l D, f2, .inr ⟨rfl, ?_⟩⟩
        rw [hJx]
        exact ⟨.ret, by rw [f3]; exact hIx _ _ _ _ _ hi3 (turn_put _ _ _ f4), ⟨.inr (.inl rfl), .inr (.inr rfl)⟩, f5, f6⟩
      | exit id =>
        obtain ⟨K', hst, hi3⟩ := hp
        obtain ⟨f1, f2, f3, f4, f5, f6⟩ := fin (some (.exit id)) K' W3 hst
        refine ⟨_, _, f1, more2 K' l D, f2, .inr ⟨rfl, ?_⟩⟩
        rw [hJx]
        exact ⟨.exit id, by rw [f3]; exact hIx _ _ _ _ _ hi3 (turn_put _ _ _ f4), ⟨.inr (.inl rfl), .inr (.inr rfl)⟩, f5, f6⟩
      | goto t =>
        obtain ⟨K', hst, hi3⟩ := hp
        obtain ⟨f1, f2, f3, f4, f5, f6⟩ := fin (some (.goto t)) K' W3 hst
        refine ⟨_, _, f1, more2 K' l D, f2, .inr ⟨rfl, ?_⟩⟩
        rw [hJx]
        exact ⟨.goto t, by rw [f3]; exact hIx _ _ _ _ _ hi3 (turn_put _ _ _ f4), ⟨.inr (.inl rfl), .inr (.inr rfl)⟩, f5, f6⟩
      | panic ch => exact hp.elim
      | outgrown => exact hp.elim
    · rw [hJ]
      exact ⟨by rw [less_more hKl hKD]; exact hI _ _ _ _ h0 (Turn.of_bl hB1), ⟨.inr (.inl rfl), .inr (.inr rfl)⟩, hrl, hrD⟩
    · have back : ∀ {K' : Nat → Prop} {W2 : World} {o : Obj}, Step (more2 K0 l D) K' W1 W2 → Turn K0 w (W2.putObj l o) := fun hst =>
        ((Turn.of_bl (S := K0) hB1).trans hst.1 (fun i hi h => by
          rcases h with h | h | h
          · exact h
          · omega
          · omega)).trans (turn_put (fun i => i = l) _ _ rfl) (fun i hi h => by omega)
      rintro e W2 ⟨⟨v, rfl⟩, K', hst, (⟨xs, hS, hj⟩ | ⟨pre, hSp, hj⟩)⟩
      · rw [hJ] at hj
        obtain ⟨hi, ⟨hkl, hkD⟩, hl, hd⟩ := hj
        have he := run_endLoop (P := P) hl (by rw [hrec]; simp)
        rw [hrec] at he
        refine ⟨none, _, he, hdone D xs (less2 K' l D) _ (by omega) hS (hI _ _ _ _ hi (turn_put _ _ _ fun h => h.2.1 rfl)) (back hst) (fun h => h.2.2 rfl) ((World.putObj_heap_other (by omega)).trans hd)⟩
      · rw [hJx] at hj
        obtain ⟨c, hi, ⟨hkl, hkD⟩, hl, hd⟩ := hj
        have he := run_endLoop (P := P) hl (by rw [hrec]; simp)
        rw [hrec] at he
        refine ⟨some c, _, he, hstop D c pre (less2 K' l D) _ (by omega) hSp (hIx _ _ _ _ _ hi (turn_put _ _ _ fun h => h.2.1 rfl)) (back hst) (fun h => h.2.2 rfl) ((World.putObj_heap_other (by omega)).trans hd)⟩

end Go.Proofs.Ytlddileiecnkjaa

set_option linter.unusedSimpArgs false
set_option linter.unusedVariables false
namespace Go.Proofs.Ytlddileiecnkjaa
open Go.RowKit

theorem wpListIn_load_mid {F : Fence} {n : Nat} {P : Program} {w : World} {ops : Array Oper} {rest : List Oper} {op : Oper} {a : Act} {Q : Exit → Act → World → Prop} (hgd : op.guard = none) (ty : TypeId) (x : Operand) (ho : op.op = .load ty x)
    (b o : Nat) (hx : a.eval x = .pointer (some ⟨b, o, none⟩)) (cs : List Value) (d : TypeDesc) (hc : w.rangeAt b o cs)
    (hu : P.underlying ty = some d) (hd : d.isRow = true) (hi : (P.info? ty).map (·.size) = some cs.length)
    (h : wpListIn F n P ops Q rest (a.put op.dst (.agg cs.toArray)) w) : wpListIn F n P ops Q (op :: rest) a w := by
  refine wpListIn_plain hgd fun K hK' => ?_
  unfold Oper.wpIn
  refine ⟨?_, ?_⟩
  · simp [Oper.about, ho]
  · rw [Oper.semAt_plain F _ _ (by rw [ho]; intro c hc'; cases hc')]
    unfold execOp
    simp only [ho, hx, Instr.loadAt, Instr.sureAddr, Sem.run_bind, Sem.run_pure, Result.andThen_ok, run_loadVar_mid w b o ty cs d hc hu hd hi]
    exact hK' _ _ h
theorem wpListIn_store_mid {F : Fence} {n : Nat} {P : Program} {w : World} {ops : Array Oper} {rest : List Oper} {op : Oper} {a : Act} {Q : Exit → Act → World → Prop} (hgd : op.guard = none) (ty : TypeId) (x y : Operand) (ho : op.op = .store ty x y)
    (b o : Nat) (cells : Array Value) (hx : a.eval x = .pointer (some ⟨b, o, none⟩)) (hy : a.eval y = .agg cells)
    (ht : w.there b o cells.size) (hi : (P.info? ty).map (·.size) = some cells.size) (h1 : cells.all (·.oneCell') = true)
    (h : wpListIn F n P ops Q rest (a.put op.dst undef) (w.setCells b o cells.toList)) : wpListIn F n P ops Q (op :: rest) a w := by
  refine wpListIn_plain hgd fun K hK' => ?_
  unfold Oper.wpIn
  refine ⟨?_, ?_⟩
  · simp [Oper.about, ho]
  · rw [Oper.semAt_plain F _ _ (by rw [ho]; intro c hc'; cases hc')]
    unfold execOp
    simp only [ho, hx, hy, Instr.storeAt, Instr.sureAddr, Sem.run_bind, Sem.run_pure, Result.andThen_ok, run_storeVar_mid w b o ty cells ht hi h1]
    exact hK' _ _ h

/-- The cells of numbers. -/
def csI (V : List Int) : List Value := V.map (.int .i64)
theorem csI_at {V : List Int} {k : Nat} (h : k < (csI V).length) : (csI V)[k] = .int .i64 (V[k]'(by simpa [csI] using h)) := by simp [csI]
theorem csI_len (V : List Int) : (csI V).length = V.length := by simp [csI]
theorem csI_one (V : List Int) : (csI V).toArray.all (·.oneCell') = true := by
  refine all_oneCell_toArray fun v hv => ?_
  obtain ⟨x, _, rfl⟩ := List.mem_map.1 hv
  rfl


theorem Turn.cells {S : Nat → Prop} {w w' : World} (h : Turn S w w') {g : Nat} (hg : g < w.heap.size) (hS : ¬ S g) (o : Nat) : w'.cell? ⟨g, o, none⟩ = w.cell? ⟨g, o, none⟩ ∧ w'.frozen? ⟨g, o, none⟩ = w.frozen? ⟨g, o, none⟩ :=
  ⟨World.cell?_of_block (h.block g hg hS), World.frozen?_of_block (h.block g hg hS)⟩

/-- An array of 24 numbers. -/
structure NumsAt (w : World) (b : Nat) (E : List Int) : Prop where
  lt : b < w.heap.size
  len : E.length = 24
  cell : ∀ i (h : i < E.length), w.cell? ⟨b, i, none⟩ = some (.int .i64 E[i])
  free : ∀ i, i < 24 → w.frozen? ⟨b, i, none⟩ = false
theorem NumsAt.turn {w w' : World} {b : Nat} {E : List Int} (h : NumsAt w b E) {S : Nat → Prop} (k : Turn S w w') (hS : ¬ S b) : NumsAt w' b E :=
  ⟨Nat.lt_of_lt_of_le h.lt k.size, h.len, fun i hi => (k.cells h.lt hS i).1.trans (h.cell i hi), fun i hi => (k.cells h.lt hS i).2.trans (h.free i hi)⟩
theorem NumsAt.bl {w w' : World} {b : Nat} {E : List Int} (h : NumsAt w b E) (k : Bl w w') : NumsAt w' b E := h.turn (Turn.of_bl (S := fun _ => False) k) id
theorem NumsAt.set {w : World} {b : Nat} {E : List Int} (h : NumsAt w b E) {u : Nat} (x : Int) : NumsAt (w.setCell ⟨b, u, none⟩ (.int .i64 x)) b (E.set u x) := by
  refine ⟨by simpa using h.lt, by simpa using h.len, fun i hi => ?_, fun i hi => by rw [World.frozen?_setCell]; exact h.free i hi⟩
  rw [List.length_set] at hi
  rw [List.getElem_set]
  by_cases e : u = i
  · subst e
    rw [World.cell?_setCell_same' _ _ _ (by rw [h.cell u hi]; rfl), if_pos rfl]
  · rw [World.cell?_setCell_other _ _ _ _ (by intro e'; injection e' with _ e2; exact e e2), h.cell i hi, if_neg e]
theorem NumsAt.range {w : World} {b : Nat} {E : List Int} (h : NumsAt w b E) : w.rangeAt b 0 (csI E) := fun j v hv => by
  obtain ⟨hj, rfl⟩ := List.getElem?_eq_some_iff.1 hv
  rw [csI_len] at hj
  rw [Nat.zero_add, csI_at]
  exact h.cell j hj
theorem setCells_size (b : Nat) : ∀ (vs : List Value) (o : Nat) (w : World), (w.setCells b o vs).heap.size = w.heap.size
  | [], _, _ => rfl
  | v :: r, o, w => by
    rw [World.setCells, setCells_size b r]
    simp
theorem Bl.setCells_ {a : World} (b : Nat) (hb : a.heap.size ≤ b) : ∀ (vs : List Value) (o : Nat) (w : World), Bl a w → Bl a (w.setCells b o vs)
  | [], _, _, h => h
  | v :: r, o, w, h => by
    rw [World.setCells]
    exact Bl.setCells_ b hb r (o + 1) _ (h.set_ hb v)
theorem Turn.setCells_ {S : Nat → Prop} {a : World} (b : Nat) (hb : S b) : ∀ (vs : List Value) (o : Nat) (w : World), Turn S a w → Turn S a (w.setCells b o vs)
  | [], _, _, h => h
  | v :: r, o, w, h => by
    rw [World.setCells]
    exact Turn.setCells_ b hb r (o + 1) _ (Turn.set (p := ⟨b, o, none⟩) h (.inl hb) v)
/-- 24 numbers that are stored over 24 cells lie there. -/
theorem NumsAt.stored {w : World} {b : Nat} {E : List Int} (hE : E.length = 24) (hl : b < w.heap.size) (ht : w.there b 0 24) : NumsAt (w.setCells b 0 (csI E)) b E := by
  have hr := World.rangeAt_setCells_same w b 0 (csI E) (by rw [csI_len, hE]; exact ht)
  refine ⟨by rw [setCells_size]; exact hl, hE, fun i hi => ?_, fun i hi => ?_⟩
  · have := hr i (.int .i64 E[i]) (by rw [List.getElem?_eq_getElem (by rw [csI_len]; exact hi), csI_at])
    rwa [Nat.zero_add] at this
  · rw [World.frozen?_setCells]
    have := (ht i hi).2
    rwa [Nat.zero_add] at this
theorem there_of_cells {w : World} {b : Nat} (h : ∀ i, i < 24 → (w.cell? ⟨b, i, none⟩).isSome = true ∧ w.frozen? ⟨b, i, none⟩ = false) : w.there b 0 24 := fun j hj => by
  rw [Nat.zero_add]
  exact h j hj

theorem results_cell_mid {P : Program} {fn : Func} {p : Tmp} {ty : TypeId} (h : fn.results = #[.cell p ty]) (tmps : Array Value) (w : World) (b : Nat) (cs : List Value) (d : TypeDesc)
    (hp : tmps.getD p undef = .pointer (some ⟨b, 0, none⟩)) (hc : w.rangeAt b 0 cs)
    (hu : P.underlying ty = some d) (hd : d.isRow = true) (hi : (P.info? ty).map (·.size) = some cs.length) :
    (results fn tmps).run P w = .ok (.agg cs.toArray) w := by
  have hp' : tmps[p]?.getD undef = .pointer (some ⟨b, 0, none⟩) := by simpa using hp
  simp [results, h, hp', asAddr, run_loadVar_mid w b 0 ty cs d hc hu hd hi]

end Go.Proofs.Ytlddileiecnkjaa

set_option linter.unusedSimpArgs false
set_option linter.unusedVariables false
namespace Go.Proofs.Ytlddileiecnkjaa
open Go.RowKit

theorem infoInt : (Try.prog.info? 2).map (fun i => (i.zero, i.size, i.bytes)) = some (some (.int .i64 0), 1, 8) := by kernel_rfl

/-- The slice at A reads as the numbers V, below block B. -/
def IntsAt (w : World) (B : Nat) (A : Option Addr) (V : List Int) : Prop := CellsAt w B A (csI V)
theorem IntsAt.cell {w : World} {B : Nat} {A : Option Addr} {V : List Int} (h : IntsAt w B A V) (h0 : 0 < V.length) :
    ∃ g off, A = some ⟨g, off, none⟩ ∧ g < B ∧ ∀ k (hk : k < V.length), w.cell? ⟨g, off + k, none⟩ = some (.int .i64 V[k]) := by
  obtain ⟨g, off, e, hg, hc⟩ := h (by rw [csI_len]; omega)
  exact ⟨g, off, e, hg, fun k hk => by rw [hc k (by rw [csI_len]; exact hk), csI_at]⟩
theorem IntsAt.bl {w w' : World} {A : Option Addr} {V : List Int} (h : IntsAt w w.heap.size A V) (hb : Bl w w') : IntsAt w' w'.heap.size A V := CellsAt.bl h hb
theorem IntsAt.more {w : World} {B B' : Nat} {A : Option Addr} {V : List Int} (h : IntsAt w B A V) (hB : B ≤ B') : IntsAt w B' A V := CellsAt.more h hB
theorem IntsAt.grown_ {w w' : World} {B : Nat} {A : Option Addr} {V : List Int} {row : Option Nat} (h : IntsAt w B A V) (hB : B ≤ w.heap.size) (hg : w.grownBy w' row)
    (hne : ∀ g, blockOf A = some g → g < B → some g ≠ row) : IntsAt w' B A V := CellsAt.grown_ h hB hg hne
/-- The value v owns the numbers V, in blocks from B on. -/
def OwnN (w : World) (B : Nat) (v : Value) (V : List Int) : Prop := Owns 2 1 w B v V.length (csI V)
theorem OwnN.nil_ (w : World) (B : Nat) : OwnN w B (.slice none 0 0) [] := Owns.nil_ _ _ _ _
theorem OwnN.bl {w w' : World} {B : Nat} {v : Value} {V : List Int} (h : OwnN w B v V) (hb : Bl w w') : OwnN w' B v V := Owns.bl h hb
theorem OwnN.low {w : World} {B B' : Nat} {v : Value} {V : List Int} (h : OwnN w B' v V) (hB : B ≤ B') : OwnN w B v V := Owns.low h hB
theorem OwnN.shape {w : World} {B : Nat} {v : Value} {V : List Int} (h : OwnN w B v V) :
    ∃ A c, v = .slice A V.length c ∧ V.length ≤ c ∧ IntsAt w w.heap.size A V ∧ RowsW 2 1 w A V.length ∧ ∀ g, blockOf A = some g → B ≤ g ∧ g < w.heap.size := by
  have h' := h
  obtain ⟨A, c, rfl, hc, h1, h2, h3⟩ := Owns.shape h
  refine ⟨A, c, rfl, ?_, h1, h2, Owns.lt_ h⟩
  rcases h'.2 with ⟨e, h0⟩ | ⟨g, cap, cur, e, _, _, hnc, _⟩
  · omega
  · injection e with e1 e2 e3
    omega
/-- A new list of numbers is left. -/
def NumsMade (V : List Int) (w : World) (e : Ending) (w' : World) : Prop := ∃ v, e = .returned v ∧ OwnN w' w.heap.size v V ∧ Bl w w'







end Go.Proofs.Ytlddileiecnkjaa

set_option linter.unusedSimpArgs false
set_option linter.unusedVariables false
namespace Go.Proofs.Ytlddileiecnkjaa
open Go.ChangeShapes Go.WideShapes Go.ChangeAt Go.RowKit




end Go.Proofs.Ytlddileiecnkjaa

set_option linter.unusedSimpArgs false
set_option linter.unusedVariables false
namespace Go.Proofs.Ytlddileiecnkjaa
open Go.RowKit

/-- From A on slices lie one behind the other, and each reads as its list of numbers; all of them lie in blocks from b on, below B. -/
def RowsAt (w : World) (b B : Nat) (A : Option Addr) (R : List (List Int)) : Prop :=
  0 < R.length → ∃ g off, A = some ⟨g, off, none⟩ ∧ (b ≤ g ∧ g < B) ∧ ∀ j (h : j < R.length), ∃ A' c', w.cell? ⟨g, off + j, none⟩ = some (.slice A' R[j].length c') ∧ IntsAt w B A' R[j] ∧ ∀ g', blockOf A' = some g' → 0 < R[j].length → b ≤ g'
theorem RowsAt.keep {w w' : World} {b B : Nat} {A : Option Addr} {R : List (List Int)} (h : RowsAt w b B A R) (hk : ∀ k o, b ≤ k → k < B → w'.cell? ⟨k, o, none⟩ = w.cell? ⟨k, o, none⟩) : RowsAt w' b B A R := fun h0 => by
  obtain ⟨g, off, e, hg, hc⟩ := h h0
  refine ⟨g, off, e, hg, fun j hj => ?_⟩
  obtain ⟨A', c', h1, h2, h3⟩ := hc j hj
  refine ⟨A', c', by rw [hk _ _ hg.1 hg.2]; exact h1, fun hp => ?_, h3⟩
  obtain ⟨g', off', rfl, hg', hc'⟩ := h2 hp
  exact ⟨g', off', rfl, hg', fun i hi => by rw [hk _ _ (h3 g' rfl (by rw [csI_len] at hp; exact hp)) hg']; exact hc' i hi⟩
theorem RowsAt.more {w : World} {b B B' : Nat} {A : Option Addr} {R : List (List Int)} (h : RowsAt w b B A R) (hB : B ≤ B') : RowsAt w b B' A R := fun h0 => by
  obtain ⟨g, off, e, hg, hc⟩ := h h0
  refine ⟨g, off, e, ⟨hg.1, by omega⟩, fun j hj => ?_⟩
  obtain ⟨A', c', h1, h2, h3⟩ := hc j hj
  exact ⟨A', c', h1, h2.more hB, h3⟩
theorem RowsAt.low {w : World} {b b' B : Nat} {A : Option Addr} {R : List (List Int)} (h : RowsAt w b B A R) (hb : b' ≤ b) : RowsAt w b' B A R := fun h0 => by
  obtain ⟨g, off, e, hg, hc⟩ := h h0
  refine ⟨g, off, e, ⟨by omega, hg.2⟩, fun j hj => ?_⟩
  obtain ⟨A', c', h1, h2, h3⟩ := hc j hj
  exact ⟨A', c', h1, h2, fun g' e' hp => Nat.le_trans hb (h3 g' e' hp)⟩
theorem RowsAt.bl {w w' : World} {b : Nat} {A : Option Addr} {R : List (List Int)} (h : RowsAt w b w.heap.size A R) (hb : Bl w w') : RowsAt w' b w'.heap.size A R :=
  (h.keep fun k o _ hk => (bcell hb).1 k o hk).more hb.size
theorem RowsAt.nil_ (w : World) (b B : Nat) (A : Option Addr) : RowsAt w b B A [] := fun h => absurd h (by simp)
theorem RowsAt.turn {w w' : World} {b B : Nat} {A : Option Addr} {R : List (List Int)} {S : Nat → Prop} (h : RowsAt w b B A R) (hB : B ≤ w.heap.size) (k : Turn S w w') (hS : ∀ g, b ≤ g → g < B → ¬ S g) : RowsAt w' b B A R :=
  h.keep fun g o h1 h2 => k.cell (by omega) (hS g h1 h2) o
/-- One of the rows. -/
theorem RowsAt.row {w : World} {b B : Nat} {A : Option Addr} {R : List (List Int)} (h : RowsAt w b B A R) {j : Nat} (hj : j < R.length) :
    ∃ g off A' c', A = some ⟨g, off, none⟩ ∧ g < B ∧ w.cell? ⟨g, off + j, none⟩ = some (.slice A' R[j].length c') ∧ IntsAt w B A' R[j] := by
  obtain ⟨g, off, e, hg, hc⟩ := h (by omega)
  obtain ⟨A', c', h1, h2, -⟩ := hc j hj
  exact ⟨g, off, A', c', e, hg.2, h1, h2⟩

end Go.Proofs.Ytlddileiecnkjaa

set_option linter.unusedSimpArgs false
set_option linter.unusedVariables false
namespace Go.Proofs.Ytlddileiecnkjaa
open Go.ChangeShapes Go.WideShapes Go.ChangeAt Go.RowKit


theorem IntsAt.set_ {w : World} {B : Nat} {A : Option Addr} {V : List Int} (h : IntsAt w B A V) {p : Addr} (hp : ∀ g, blockOf A = some g → p.block ≠ g) (v : Value) : IntsAt (w.setCell p v) B A V := fun h0 => by
  obtain ⟨g, off, rfl, hg, hc⟩ := h h0
  exact ⟨g, off, rfl, hg, fun k hk => by rw [World.cell?_setCell_other _ _ _ _ (fun e => hp g rfl (by rw [e]))]; exact hc k hk⟩

/-- Three cells, in a block of their own. -/
def Tri (w : World) (g : Nat) (a b c : Value) : Prop := w.rowIs g 26 3 (fun i => if i = 0 then a else if i = 1 then b else c)
theorem Tri.new (w : World) (a b c : Value) : Tri (w.alloc (.cells #[a, b, c] 26)) w.heap.size a b c :=
  World.rowIs_alloc w #[a, b, c] _ _ (fun i hi => by
    have : i = 0 ∨ i = 1 ∨ i = 2 := by simp at hi; omega
    rcases this with rfl | rfl | rfl <;> simp)
theorem Tri.facts {w : World} {g : Nat} {a b c : Value} (h : Tri w g a b c) : w.cell? ⟨g, 0, none⟩ = some a ∧ w.cell? ⟨g, 1, none⟩ = some b ∧ w.cell? ⟨g, 2, none⟩ = some c ∧ w.frozen? ⟨g, 0, none⟩ = false ∧ w.frozen? ⟨g, 1, none⟩ = false ∧ w.frozen? ⟨g, 2, none⟩ = false :=
  ⟨h.cell (i := 0) (by omega), h.cell (i := 1) (by omega), h.cell (i := 2) (by omega), h.frozen 0, h.frozen 1, h.frozen 2⟩
theorem Tri.bl {w w' : World} {g : Nat} {a b c : Value} (h : Tri w g a b c) (hb : Bl w w') : Tri w' g a b c := row_bl h hb
theorem Tri.far {w : World} {g : Nat} {a b c : Value} (h : Tri w g a b c) {p : Addr} (hp : g ≠ p.block) (u : Value) : Tri (w.setCell p u) g a b c := World.rowIs.setOther h hp u
theorem Tri.set0 {w : World} {g : Nat} {a b c : Value} (h : Tri w g a b c) (u : Value) : Tri (w.setCell ⟨g, 0, none⟩ u) g u b c :=
  (World.rowIs.set h 0 u).congr fun i hi => by
    have : i = 0 ∨ i = 1 ∨ i = 2 := by omega
    rcases this with rfl | rfl | rfl <;> simp
theorem Tri.set1 {w : World} {g : Nat} {a b c : Value} (h : Tri w g a b c) (u : Value) : Tri (w.setCell ⟨g, 1, none⟩ u) g a u c :=
  (World.rowIs.set h 1 u).congr fun i hi => by
    have : i = 0 ∨ i = 1 ∨ i = 2 := by omega
    rcases this with rfl | rfl | rfl <;> simp




end Go.Proofs.Ytlddileiecnkjaa
