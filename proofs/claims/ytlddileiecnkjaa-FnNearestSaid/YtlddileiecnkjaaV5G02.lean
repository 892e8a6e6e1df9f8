/-
  What is proved here: a range over a function whose iterator keeps a state of its own in memory: a law for the statement, where a contract of the iterator is given; arrays of 24 numbers, in blocks of their own; a whole array is loaded and stored by laws; contracts of the small functions that the exact laws on graphs go by; the order of two arcs' ends as the code takes it (cmp.Or over two comparisons); two slices of arcs that read as one list are told to be the same. No conditions beyond those that each theorem states.
-/
import Derived.Test.YtlddileiecnkjaaV5G01
import Derived.RangeFuncNested
import Derived.RangeFuncBound
import Derived.RangeFuncCalls
import Derived.RangeFuncLeaves
import Derived.Shelf.Abstract
import Derived.Shelf.RegionOpen
import Derived.OwnWalkIn
import Derived.TacticsInMore
import Derived.LoopNIn
import Derived.LoopIn
import Derived.Deep.MidRow
import Derived.Laws.Rows
import Derived.WalkKit
import Derived.WalkSpells
import Derived.WalkLawsBesides
import Derived.Handy
import Derived.Lib.Hide
import Derived.Deep.RegionHeld3
import Derived.Deep.QuietTactic
import Derived.BigQuiet
import Derived.StillTailTactics
import Derived.Deep.RegionWith
set_option linter.unusedSimpArgs false
set_option linter.unusedVariables false
namespace Go.Proofs.Ytlddileiecnkjaa
open Go.RowKit

/-- A change that is made to blocks of K alone, and to new ones; what of them is still held is K'. -/
def Step (K K' : Nat → Prop) (w w' : World) : Prop := Turn K w w' ∧ ∀ i, K' i → K i ∨ w.heap.size ≤ i
theorem Step.refl (K : Nat → Prop) (w : World) : Step K K w w := ⟨Turn.refl _ _, fun i h => .inl h⟩
theorem Step.trans {K1 K2 K3 : Nat → Prop} {a b c : World} (h : Step K1 K2 a b) (k : Step K2 K3 b c) : Step K1 K3 a c :=
  ⟨h.1.trans k.1 (fun i hi h2 => (h.2 i h2).resolve_right (by omega)), fun i hi => by
    rcases k.2 i hi with h' | h'
    · exact h.2 i h'
    · exact .inr (Nat.le_trans h.1.size h')⟩
theorem Step.out {K K' : Nat → Prop} {w w' : World} (h : Step K K' w w') {i : Nat} (hi : i < w.heap.size) (hn : ¬ K i) : ¬ K' i := fun h' => (h.2 i h').elim hn (by omega)

/-- The contract of an iterator. J: what its caller holds between two rounds, and the blocks that it holds it in: of these the iterator turns none. Jx: the same where a round has said that it wants no more. -/
def SeqT {α : Type} (P : Program) (gf : Nat) (lb : Array Value) (encs : α → Array Value) (Pre : List α → α → Prop) (S Sp : List α → Prop) (In : Nat → Prop) (w0 : World) : Prop :=
  ∀ (l : Nat) (J Jx : List α → (Nat → Prop) → World → Prop) (K : Nat → Prop) (W : World), Bl w0 W → (∀ i, K i → ¬ In i) →
    (∀ pre K A B, J pre K A → Turn (fun i => ¬ K i) A B → J pre K B) →
    (∀ pre K A B, Jx pre K A → Turn (fun i => ¬ K i) A B → Jx pre K B) →
    (∀ pre K A, J pre K A → ∀ i, K i → i < A.heap.size) →
    (∀ pre x K W1, J pre K W1 → Pre pre x → YieldAt Fence.wide 0 P l (encs x) W1 fun e W' => ∃ K', Step K K' W1 W' ∧
      ((e = .returned (.bool true) ∧ J (pre ++ [x]) K' W') ∨ (e = .returned (.bool false) ∧ Jx (pre ++ [x]) K' W'))) →
    J [] K W →
    CallsIn Fence.wide 0 P gf (#[.func (.yield l) #[] #[]] ++ lb) W fun e W' => (∃ v, e = .returned v) ∧ ∃ K', Step K K' W W' ∧ ((∃ xs, S xs ∧ J xs K' W') ∨ (∃ pre, Sp pre ∧ Jx pre K' W'))

/-- How the body of a round may be left. -/
def turnPost {α : Type} (I : List α → (Nat → Prop) → World → Prop) (Ix : Code → List α → (Nat → Prop) → World → Prop) (K : Nat → Prop) (xs : List α) (W : World) : Exit → Act → World → Prop
  | .normal, _, W' => ∃ K', Step K K' W W' ∧ I xs K' W'
  | .ret, _, W' => ∃ K', Step K K' W W' ∧ Ix .ret xs K' W'
  | .exit id, _, W' => ∃ K', Step K K' W W' ∧ Ix (.exit id) xs K' W'
  | .goto t, _, W' => ∃ K', Step K K' W W' ∧ Ix (.goto t) xs K' W'
  | .panic _, _, _ => False
  | .outgrown, _, _ => False

theorem turn_put (S : Nat → Prop) (W : World) {l : Nat} (o : Obj) (hl : S l) : Turn S W (W.putObj l o) :=
  Turn.of_grown (grownBy_putObj' W l o) (fun k e => by cases e; exact hl)

/-- The blocks of the caller, without the two of the statement's own. -/
def less2 (K : Nat → Prop) (l D : Nat) (i : Nat) : Prop := K i ∧ i ≠ l ∧ i ≠ D
def more2 (K : Nat → Prop) (l D : Nat) (i : Nat) : Prop := K i ∨ i = l ∨ i = D
theorem less_more {K : Nat → Prop} {l D : Nat} (hl : ¬ K l) (hD : ¬ K D) : less2 (more2 K l D) l D = K := by
  funext i
  apply propext
  unfold less2 more2
  constructor
  · rintro ⟨h | h | h, h1, h2⟩
    · exact h
    · exact absurd h h1
    · exact absurd h h2
  · intro h
    exact ⟨.inl h, fun e => hl (e ▸ h), fun e => hD (e ▸ h)⟩

variable {P : Program}
set_option maxHeartbeats 1000000 in
theorem wpIn_range {α : Type} {g : Operand} {ps : Array Tmp} {assign body : Code} {Q : Exit → Act → World → Prop} {a : Act} {w : World} {gf : Nat} {lb : Array Value}
    (hg : a.eval g = .func (.func gf) #[] lb) (eg : ∀ args w, (callFunc gf args).run P w = .ok (.enter gf args) w)
    {encs : α → Array Value} {Pre : List α → α → Prop} {S Sp : List α → Prop} {In : Nat → Prop} {w0 : World} (hseq : SeqT P gf lb encs Pre S Sp In w0) (hb0 : Bl w0 w) (hIn : ∀ i, In i → i < w.heap.size) (hps : ∀ x, (encs x).size = ps.size)
    (I : List α → (Nat → Prop) → World → Prop) (Ix : Code → List α → (Nat → Prop) → World → Prop) (M : List α → α → Act → (Nat → Prop) → World → Prop) (K0 : Nat → Prop) (hK0 : ∀ i, K0 i → ¬ In i)
    (hI : ∀ pre K A B, I pre K A → Turn (fun i => ¬ K i) A B → I pre K B) (hIx : ∀ c pre K A B, Ix c pre K A → Turn (fun i => ¬ K i) A B → Ix c pre K B)
    (hM : ∀ pre x a K A B, M pre x a K A → Turn (fun i => ¬ K i) A B → M pre x a K B)
    (hlt : ∀ pre K A, I pre K A → ∀ i, K i → i < A.heap.size) (h0 : I [] K0 w)
    (hassign : ∀ (l : Nat) (pre : List α) (x : α) (K : Nat → Prop) (W : World) (R : Act → World → Prop), I pre K W → Pre pre x → (∀ a₁ K1 W1, Step K K1 W W1 → M pre x a₁ K1 W1 → R a₁ W1) →
      assign.wpIn (Fence.wide.inRound l) 0 P (Exit.then R (fun _ _ _ => False)) { tmps := (ps.zip (encs x)).foldl (fun t (p, v) => t.setIfInBounds p v) a.tmps, defers := [] } W)
    (hbody : ∀ (l : Nat) (pre : List α) (x : α) (a₁ : Act) (K : Nat → Prop) (W : World), M pre x a₁ K W → Pre pre x → body.wpIn (Fence.wide.inRound l) 0 P (turnPost I Ix K (pre ++ [x]) W) a₁ W)
    (hdone : ∀ (D : Nat) (xs : List α) (K : Nat → Prop) (W : World), w.heap.size ≤ D → S xs → I xs K W → Turn K0 w W → ¬ K D → W.heap[D]? = some (.deferred (some [])) → Q .normal { a with defers := { target := .collected D, args := #[] } :: a.defers } W)
    (hstop : ∀ (D : Nat) (c : Code) (pre : List α) (K : Nat → Prop) (W : World), w.heap.size ≤ D → Sp pre → Ix c pre K W → Turn K0 w W → ¬ K D → W.heap[D]? = some (.deferred (some [])) → c.wpIn Fence.wide 0 P Q { a with defers := { target := .collected D, args := #[] } :: a.defers } W) :
    (Code.rangeFunc g ps assign body).wpIn Fence.wide 0 P Q a w := by
  refine wpIn_rangeFunc fun fn hfn => ?_
  obtain ⟨rec, hrec⟩ : ∃ rec : LoopState → Option Code → Loop, rec = fun st pe => { state := st, pending := pe, fn, tmps := a.tmps, params := ps, assign, body, defers := w.heap.size } := ⟨_, rfl⟩
  generalize hlD : w.heap.size + 1 = l
  generalize hDD : w.heap.size = D
  have hk0 := hlt [] K0 w h0
  have hKl : ¬ K0 l := fun h => by have := hk0 l h; omega
  have hKD : ¬ K0 D := fun h => by have := hk0 D h; omega
  obtain ⟨W1, hW1⟩ : ∃ W1, W1 = (w.alloc (.deferred (some []))).alloc (.loop (rec .ready none)) := ⟨_, rfl⟩
  have hrl : W1.heap[l]? = some (.loop (rec .ready none)) := by
    have := World.alloc_heap_new (w.alloc (.deferred (some []))) (.loop (rec .ready none))
    rwa [World.size_alloc, hlD, ← hW1] at this
  have hrD : W1.heap[D]? = some (.deferred (some [])) := by
    have h1 := Below.heap_alloc (w.alloc (.deferred (some []))) (.loop (rec .ready none)) D (by simp; omega)
    rw [hW1, h1, ← hDD]
    exact World.alloc_heap_new w _
  have hB1 : Bl w W1 := by rw [hW1]; exact ((Bl.refl w).alloc_ _).alloc_ _
  have hs1 : W1.heap.size = w.heap.size + 2 := by rw [hW1]; simp
  obtain ⟨J, hJ⟩ : ∃ J : List α → (Nat → Prop) → World → Prop, J = fun pre K W => I pre (less2 K l D) W ∧ (K l ∧ K D) ∧ W.heap[l]? = some (.loop (rec .ready none)) ∧ W.heap[D]? = some (.deferred (some [])) := ⟨_, rfl⟩
  obtain ⟨Jx, hJx⟩ : ∃ Jx : List α → (Nat → Prop) → World → Prop, Jx = fun pre K W => ∃ c, Ix c pre (less2 K l D) W ∧ (K l ∧ K D) ∧ W.heap[l]? = some (.loop (rec .done (some c))) ∧ W.heap[D]? = some (.deferred (some [])) := ⟨_, rfl⟩
  have wider : ∀ {K : Nat → Prop} {A B : World}, Turn (fun i => ¬ K i) A B → Turn (fun i => ¬ less2 K l D i) A B := fun h => h.more fun i _ hi h' => hi h'.1
  have old : ∀ {K : Nat → Prop} {A B : World} {i : Nat} {o : Obj}, Turn (fun i => ¬ K i) A B → K i → A.heap[i]? = some o → B.heap[i]? = some o := fun h hi ho =>
    (h.block _ (Array.getElem?_eq_some_iff.1 ho).1 (fun h' => h' hi)).trans ho
  refine ⟨l, [{ target := .collected D, args := #[] }], W1, { target := .fn (.func gf) lb, args := #[.func (.yield l) #[] #[]] }, W1, gf, #[.func (.yield l) #[] #[]] ++ lb, W1, ?_, ?_, fun _ _ => trivial, by simp [invoke, go_sem, eg], fun h => by simp [Fence.wide] at h, ?_⟩
  · have := run_enterLoop_outer (P := P) (w := w) fn a.tmps ps assign body
    rw [hW1, hrec, ← hlD, ← hDD]
    exact this
  · simp only [resolve, hg]
    simp [go_sem]
  · refine (hseq l J Jx (more2 K0 l D) W1 (hb0.trans_ hB1) (fun i hi h => by
      have := hIn i h
      rcases hi with hi | hi | hi
      · exact hK0 i hi h
      · omega
      · omega) ?_ ?_ ?_ ?_ ?_).mono ?_
    · rintro pre K A B hj ht
      rw [hJ] at hj ⊢
      exact ⟨hI _ _ _ _ hj.1 (wider ht), hj.2.1, old ht hj.2.1.1 hj.2.2.1, old ht hj.2.1.2 hj.2.2.2⟩
    · rintro pre K A B hj ht
      rw [hJx] at hj ⊢
      obtain ⟨c, h1, h2, h3, h4⟩ := hj
      exact ⟨c, hIx _ _ _ _ _ h1 (wider ht), h2, old ht h2.1 h3, old ht h2.2 h4⟩
    · rintro pre K A hj i hi
      rw [hJ] at hj
      by_cases e1 : i = l
      · subst e1; exact (Array.getElem?_eq_some_iff.1 hj.2.2.1).1
      · by_cases e2 : i = D
        · subst e2; exact (Array.getElem?_eq_some_iff.1 hj.2.2.2).1
        · exact hlt _ _ _ hj.1 i ⟨hi, e1, e2⟩
    · rintro pre x K W hj hpre
      rw [hJ] at hj
      obtain ⟨hi, ⟨hkl, hkD⟩, hl, hd⟩ := hj
      have hll : l < W.heap.size := (Array.getElem?_eq_some_iff.1 hl).1
      have hne : D ≠ l := by omega
      have hy := run_yield (P := P) (args := encs x) hl (by rw [hrec]; exact hps x)
      rw [hrec] at hy
      have hn1 : ¬ less2 K l D l := fun h => h.2.1 rfl
      have hn2 : ¬ less2 K l D D := fun h => h.2.2 rfl
      have hDl : D < W.heap.size := by omega
      refine ⟨fn, _, assign, body, hy, roundIn_of_wpIn hfn (hassign l pre x _ W _ hi hpre fun a₁ K1 Wa hstA hma => ?_)⟩
      have hla := (hstA.1.block l hll hn1).trans hl
      have hda := (hstA.1.block D hDl hn2).trans hd
      have hlla : l < Wa.heap.size := (Array.getElem?_eq_some_iff.1 hla).1
      have hk1 : ¬ K1 l := hstA.out hll hn1
      have hk2 : ¬ K1 D := hstA.out hDl hn2
      refine ⟨_, run_beginRound hla (by rw [hrec]), ?_⟩
      obtain ⟨W2, hW2⟩ : ∃ W2, W2 = Wa.putObj l (.loop { rec .ready none with state := .busy }) := ⟨_, rfl⟩
      rw [← hW2]
      have hl2 : W2.heap[l]? = some (.loop { rec .ready none with state := .busy }) := by rw [hW2]; exact World.putObj_heap_same hlla
      have hd2 : W2.heap[D]? = some (.deferred (some [])) := by rw [hW2]; exact (World.putObj_heap_other hne).trans hda
      have hs2 : W2.heap.size = Wa.heap.size := by rw [hW2]; simp
      have hi2 : M pre x a₁ K1 W2 := by rw [hW2]; exact hM _ _ _ _ _ _ hma (turn_put _ _ _ hk1)
      have t2 : Turn K W W2 := by
        rw [hW2]
        exact (hstA.1.more fun i _ h => h.1).trans (turn_put (fun i => i = l) _ _ rfl) (fun i _ h => by rw [h]; exact hkl)
      have hKK : ∀ i, K1 i → K i ∨ W.heap.size ≤ i := fun i h => (hstA.2 i h).imp (fun h => h.1) id
      have hsA := hstA.1.size
      refine wpIn_mono (hbody l pre x a₁ K1 W2 hi2 hpre) ?_
      -- what the end of a round does
      have fin : ∀ (jump : Option Code) (K' : Nat → Prop) (W3 : World), Step K1 K' W2 W3 →
          (Instr.endRound l jump).run P W3 = .ok (.bool jump.isNone) (W3.putObj l (.loop (rec (if jump.isNone then .ready else .done) jump))) ∧
          Step K (more2 K' l D) W (W3.putObj l (.loop (rec (if jump.isNone then .ready else .done) jump))) ∧ less2 (more2 K' l D) l D = K' ∧ ¬ K' l ∧
          (W3.putObj l (.loop (rec (if jump.isNone then .ready else .done) jump))).heap[l]? = some (.loop (rec (if jump.isNone then .ready else .done) jump)) ∧
          (W3.putObj l (.loop (rec (if jump.isNone then .ready else .done) jump))).heap[D]? = some (.deferred (some [])) := by
        intro jump K' W3 hst
        have hl2' : l < W2.heap.size := by omega
        have hD2' : D < W2.heap.size := by omega
        have hl3 := (hst.1.block l hl2' hk1).trans hl2
        have hd3 := (hst.1.block D hD2' hk2).trans hd2
        have he := run_endRound (P := P) jump hl3
        rw [hrec] at he ⊢
        have hKl' := hst.out hl2' hk1
        have hKD' := hst.out hD2' hk2
        refine ⟨he, ⟨?_, fun i hi => ?_⟩, less_more hKl' hKD', hKl', World.putObj_heap_same (Array.getElem?_eq_some_iff.1 hl3).1, (World.putObj_heap_other hne).trans hd3⟩
        · exact (t2.trans hst.1 (fun i hi h => (hKK i h).resolve_right (by omega))).trans (turn_put (fun i => i = l) _ _ rfl) (fun i _ h => by rw [h]; exact hkl)
        · rcases hi with hi | hi | hi
          · rcases hst.2 i hi with h | h
            · exact hKK i h
            · exact .inr (by omega)
          · exact .inl (hi ▸ hkl)
          · exact .inl (hi ▸ hkD)
      rintro e a3 W3 hp
      cases e with
      | normal =>
        obtain ⟨K', hst, hi3⟩ := hp
        obtain ⟨f1, f2, f3, f4, f5, f6⟩ := fin none K' W3 hst
        refine ⟨_, _, f1, more2 K' l D, f2, .inl ⟨rfl, ?_⟩⟩
        rw [hJ]
        exact ⟨by rw [f3]; exact hI _ _ _ _ hi3 (turn_put _ _ _ f4), ⟨.inr (.inl rfl), .inr (.inr rfl)⟩, f5, f6⟩
      | ret =>
        obtain ⟨K', hst, hi3⟩ := hp
        obtain ⟨f1, f2, f3, f4, f5, f6⟩ := fin (some .ret) K' W3 hst
        refine ⟨_, _, f1, more2 K' l D, f2, .inr ⟨rfl, ?_⟩⟩
        rw [hJx]
        exact ⟨.ret, by rw [f3]; exact hIx _ _ _ _ _ hi3 (turn_put _ _ _ f4), ⟨.inr (.inl rfl), .inr (.inr rfl)⟩, f5, f6⟩
      | exit id =>
        obtain ⟨K', hst, hi3⟩ := hp
        obtain ⟨f1, f2, f3, f4, f5, f6⟩ := fin (some (.exit id)) K' W3 hst
        refine ⟨_, _, f1, more2 K' l D, f2, .inr ⟨rfl, ?_⟩⟩
        rw [hJx]
        exact ⟨.exit id, by rw [f3]; exact hIx _ _ _ _ _ hi3 (turn_put _ _ _ f4), ⟨.inr (.inl rfl), .inr (.inr rfl)⟩, f5, f6⟩
      | goto t =>
        obtain ⟨K', hst, hi3⟩ := hp
        obtain ⟨f1, f2, f3, f4, f5, f6⟩ := fin (some (.goto t)) K' W3 hst
        refine ⟨_, _, f1, more2 K' l D, f2, .inr ⟨rfl, ?_⟩⟩
        rw [hJx]
        exact ⟨.goto t, by rw [f3]; exact hIx _ _ _ _ _ hi3 (turn_put _ _ _ f4), ⟨.inr (.inl rfl), .inr (.inr rfl)⟩, f5, f6⟩
      | panic ch => exact hp.elim
      | outgrown => exact hp.elim
    · rw [hJ]
      exact ⟨by rw [less_more hKl hKD]; exact hI _ _ _ _ h0 (Turn.of_bl hB1), ⟨.inr (.inl rfl), .inr (.inr rfl)⟩, hrl, hrD⟩
    · have back : ∀ {K' : Nat → Prop} {W2 : World} {o : Obj}, Step (more2 K0 l D) K' W1 W2 → Turn K0 w (W2.putObj l o) := fun hst =>
        ((Turn.of_bl (S := K0) hB1).trans hst.1 (fun i hi h => by
          rcases h with h | h | h
          · exact h
          · omega
          · omega)).trans (turn_put (fun i => i = l) _ _ rfl) (fun i hi h => by omega)
      rintro e W2 ⟨⟨v, rfl⟩, K', hst, (⟨xs, hS, hj⟩ | ⟨pre, hSp, hj⟩)⟩
      · rw [hJ] at hj
        obtain ⟨hi, ⟨hkl, hkD⟩, hl, hd⟩ := hj
        have he := run_endLoop (P := P) hl (by rw [hrec]; simp)
        rw [hrec] at he
        refine ⟨none, _, he, hdone D xs (less2 K' l D) _ (by omega) hS (hI _ _ _ _ hi (turn_put _ _ _ fun h => h.2.1 rfl)) (back hst) (fun h => h.2.2 rfl) ((World.putObj_heap_other (by omega)).trans hd)⟩
      · rw [hJx] at hj
        obtain ⟨c, hi, ⟨hkl, hkD⟩, hl, hd⟩ := hj
        have he := run_endLoop (P := P) hl (by rw [hrec]; simp)
        rw [hrec] at he
        refine ⟨some c, _, he, hstop D c pre (less2 K' l D) _ (by omega) hSp (hIx _ _ _ _ _ hi (turn_put _ _ _ fun h => h.2.1 rfl)) (back hst) (fun h => h.2.2 rfl) ((World.putObj_heap_other (by omega)).trans hd)⟩

end Go.Proofs.Ytlddileiecnkjaa

set_option linter.unusedSimpArgs false
set_option linter.unusedVariables false
namespace Go.Proofs.Ytlddileiecnkjaa
open Go.RowKit

theorem wpListIn_load_mid {F : Fence} {n : Nat} {P : Program} {w : World} {ops : Array Oper} {rest : List Oper} {op : Oper} {a : Act} {Q : Exit → Act → World → Prop} (hgd : op.guard = none) (ty : TypeId) (x : Operand) (ho : op.op = .load ty x)
    (b o : Nat) (hx : a.eval x = .pointer (some ⟨b, o, none⟩)) (cs : List Value) (d : TypeDesc) (hc : w.rangeAt b o cs)
    (hu : P.underlying ty = some d) (hd : d.isRow = true) (hi : (P.info? ty).map (·.size) = some cs.length)
    (h : wpListIn F n P ops Q rest (a.put op.dst (.agg cs.toArray)) w) : wpListIn F n P ops Q (op :: rest) a w := by
  refine wpListIn_plain hgd fun K hK' => ?_
  unfold Oper.wpIn
  refine ⟨?_, ?_⟩
  · simp [Oper.about, ho]
  · rw [Oper.semAt_plain F _ _ (by rw [ho]; intro c hc'; cases hc')]
    unfold execOp
    simp only [ho, hx, Instr.loadAt, Instr.sureAddr, Sem.run_bind, Sem.run_pure, Result.andThen_ok, run_loadVar_mid w b o ty cs d hc hu hd hi]
    exact hK' _ _ h
theorem wpListIn_store_mid {F : Fence} {n : Nat} {P : Program} {w : World} {ops : Array Oper} {rest : List Oper} {op : Oper} {a : Act} {Q : Exit → Act → World → Prop} (hgd : op.guard = none) (ty : TypeId) (x y : Operand) (ho : op.op = .store ty x y)
    (b o : Nat) (cells : Array Value) (hx : a.eval x = .pointer (some ⟨b, o, none⟩)) (hy : a.eval y = .agg cells)
    (ht : w.there b o cells.size) (hi : (P.info? ty).map (·.size) = some cells.size) (h1 : cells.all (·.oneCell') = true)
    (h : wpListIn F n P ops Q rest (a.put op.dst undef) (w.setCells b o cells.toList)) : wpListIn F n P ops Q (op :: rest) a w := by
  refine wpListIn_plain hgd fun K hK' => ?_
  unfold Oper.wpIn
  refine ⟨?_, ?_⟩
  · simp [Oper.about, ho]
  · rw [Oper.semAt_plain F _ _ (by rw [ho]; intro c hc'; cases hc')]
    unfold execOp
    simp only [ho, hx, hy, Instr.storeAt, Instr.sureAddr, Sem.run_bind, Sem.run_pure, Result.andThen_ok, run_storeVar_mid w b o ty cells ht hi h1]
    exact hK' _ _ h

/-- The cells of numbers. -/
def csI (V : List Int) : List Value := V.map (.int .i64)
theorem csI_at {V : List Int} {k : Nat} (h : k < (csI V).length) : (csI V)[k] = .int .i64 (V[k]'(by simpa [csI] using h)) := by simp [csI]
theorem csI_len (V : List Int) : (csI V).length = V.length := by simp [csI]
theorem csI_one (V : List Int) : (csI V).toArray.all (·.oneCell') = true := by
  refine all_oneCell_toArray fun v hv => ?_
  obtain ⟨x, _, rfl⟩ := List.mem_map.1 hv
  rfl


theorem Turn.cells {S : Nat → Prop} {w w' : World} (h : Turn S w w') {g : Nat} (hg : g < w.heap.size) (hS : ¬ S g) (o : Nat) : w'.cell? ⟨g, o, none⟩ = w.cell? ⟨g, o, none⟩ ∧ w'.frozen? ⟨g, o, none⟩ = w.frozen? ⟨g, o, none⟩ :=
  ⟨World.cell?_of_block (h.block g hg hS), World.frozen?_of_block (h.block g hg hS)⟩

/-- An array of 24 numbers. -/
structure NumsAt (w : World) (b : Nat) (E : List Int) : Prop where
  lt : b < w.heap.size
  len : E.length = 24
  cell : ∀ i (h : i < E.length), w.cell? ⟨b, i, none⟩ = some (.int .i64 E[i])
  free : ∀ i, i < 24 → w.frozen? ⟨b, i, none⟩ = false
theorem NumsAt.turn {w w' : World} {b : Nat} {E : List Int} (h : NumsAt w b E) {S : Nat → Prop} (k : Turn S w w') (hS : ¬ S b) : NumsAt w' b E :=
  ⟨Nat.lt_of_lt_of_le h.lt k.size, h.len, fun i hi => (k.cells h.lt hS i).1.trans (h.cell i hi), fun i hi => (k.cells h.lt hS i).2.trans (h.free i hi)⟩
theorem NumsAt.bl {w w' : World} {b : Nat} {E : List Int} (h : NumsAt w b E) (k : Bl w w') : NumsAt w' b E := h.turn (Turn.of_bl (S := fun _ => False) k) id
theorem NumsAt.set {w : World} {b : Nat} {E : List Int} (h : NumsAt w b E) {u : Nat} (x : Int) : NumsAt (w.setCell ⟨b, u, none⟩ (.int .i64 x)) b (E.set u x) := by
  refine ⟨by simpa using h.lt, by simpa using h.len, fun i hi => ?_, fun i hi => by rw [World.frozen?_setCell]; exact h.free i hi⟩
  rw [List.length_set] at hi
  rw [List.getElem_set]
  by_cases e : u = i
  · subst e
    rw [World.cell?_setCell_same' _ _ _ (by rw [h.cell u hi]; rfl), if_pos rfl]
  · rw [World.cell?_setCell_other _ _ _ _ (by intro e'; injection e' with _ e2; exact e e2), h.cell i hi, if_neg e]
theorem NumsAt.range {w : World} {b : Nat} {E : List Int} (h : NumsAt w b E) : w.rangeAt b 0 (csI E) := fun j v hv => by
  obtain ⟨hj, rfl⟩ := List.getElem?_eq_some_iff.1 hv
  rw [csI_len] at hj
  rw [Nat.zero_add, csI_at]
  exact h.cell j hj
theorem setCells_size (b : Nat) : ∀ (vs : List Value) (o : Nat) (w : World), (w.setCells b o vs).heap.size = w.heap.size
  | [], _, _ => rfl
  | v :: r, o, w => by
    rw [World.setCells, setCells_size b r]
    simp
theorem Bl.setCells_ {a : World} (b : Nat) (hb : a.heap.size ≤ b) : ∀ (vs : List Value) (o : Nat) (w : World), Bl a w → Bl a (w.setCells b o vs)
  | [], _, _, h => h
  | v :: r, o, w, h => by
    rw [World.setCells]
    exact Bl.setCells_ b hb r (o + 1) _ (h.set_ hb v)
theorem Turn.setCells_ {S : Nat → Prop} {a : World} (b : Nat) (hb : S b) : ∀ (vs : List Value) (o : Nat) (w : World), Turn S a w → Turn S a (w.setCells b o vs)
  | [], _, _, h => h
  | v :: r, o, w, h => by
    rw [World.setCells]
    exact Turn.setCells_ b hb r (o + 1) _ (Turn.set (p := ⟨b, o, none⟩) h (.inl hb) v)
/-- 24 numbers that are stored over 24 cells lie there. -/
theorem NumsAt.stored {w : World} {b : Nat} {E : List Int} (hE : E.length = 24) (hl : b < w.heap.size) (ht : w.there b 0 24) : NumsAt (w.setCells b 0 (csI E)) b E := by
  have hr := World.rangeAt_setCells_same w b 0 (csI E) (by rw [csI_len, hE]; exact ht)
  refine ⟨by rw [setCells_size]; exact hl, hE, fun i hi => ?_, fun i hi => ?_⟩
  · have := hr i (.int .i64 E[i]) (by rw [List.getElem?_eq_getElem (by rw [csI_len]; exact hi), csI_at])
    rwa [Nat.zero_add] at this
  · rw [World.frozen?_setCells]
    have := (ht i hi).2
    rwa [Nat.zero_add] at this
theorem there_of_cells {w : World} {b : Nat} (h : ∀ i, i < 24 → (w.cell? ⟨b, i, none⟩).isSome = true ∧ w.frozen? ⟨b, i, none⟩ = false) : w.there b 0 24 := fun j hj => by
  rw [Nat.zero_add]
  exact h j hj

theorem results_cell_mid {P : Program} {fn : Func} {p : Tmp} {ty : TypeId} (h : fn.results = #[.cell p ty]) (tmps : Array Value) (w : World) (b : Nat) (cs : List Value) (d : TypeDesc)
    (hp : tmps.getD p undef = .pointer (some ⟨b, 0, none⟩)) (hc : w.rangeAt b 0 cs)
    (hu : P.underlying ty = some d) (hd : d.isRow = true) (hi : (P.info? ty).map (·.size) = some cs.length) :
    (results fn tmps).run P w = .ok (.agg cs.toArray) w := by
  have hp' : tmps[p]?.getD undef = .pointer (some ⟨b, 0, none⟩) := by simpa using hp
  simp [results, h, hp', asAddr, run_loadVar_mid w b 0 ty cs d hc hu hd hi]

end Go.Proofs.Ytlddileiecnkjaa

set_option linter.unusedSimpArgs false
set_option linter.unusedVariables false
namespace Go.Proofs.Ytlddileiecnkjaa
open Go.RowKit



/-- The order of two numbers, as a number. -/
def cmpI (a b : Int) : Int := if a < b then -1 else if b < a then 1 else 0
theorem cmpI_lt {a b : Int} (h : a < b) : cmpI a b = -1 := by simp [cmpI, h]
theorem cmpI_gt {a b : Int} (h : b < a) : cmpI a b = 1 := by
  unfold cmpI
  rw [if_neg (by omega), if_pos h]
theorem cmpI_eq {a b : Int} (h1 : ¬ a < b) (h2 : ¬ b < a) : cmpI a b = 0 := by
  unfold cmpI
  rw [if_neg h1, if_neg h2]
/-- Is an arc of these ends ahead of another one? -/
def aheadB (a b c d : Int) : Bool := decide (a < c ∨ a = c ∧ b < d)
/-- May an arc lead from u to v, of n nodes? -/
def pairB (n u v : Int) : Bool := decide ((0 ≤ u ∧ u < n) ∧ (0 ≤ v ∧ v < n) ∧ u ≠ v)
/-- May an arc be so, of n nodes? -/
def arcB (n u v x : Int) : Bool := decide (((0 ≤ u ∧ u < n) ∧ (0 ≤ v ∧ v < n) ∧ u ≠ v) ∧ 1 ≤ x ∧ x ≤ 1000)

/-- Is a number among those from lo to hi? -/
def inB (n lo hi : Int) : Bool := decide (lo ≤ n ∧ n ≤ hi)
/-- Is v a node of n, as the model reckons it? -/
def nodeB (n v : Int) : Bool := inB v 0 (wrap64 (n - 1))

set_option maxHeartbeats 400000 in
theorem l1In_any (n lo hi : Int) (w : World) :
    Calls Try.prog 83 #[.int .i64 n, .int .i64 lo, .int .i64 hi] w fun e w' => e = .returned (.bool (inB n lo hi)) ∧ w = w' := by
  by_cases h1 : lo ≤ n
  · by_cases h2 : n ≤ hi
    · go_enter Try.func83, Try.ntmps83
      go_wp2
      go_ret
      exact ⟨ret_bool (by simp [inB]; omega), rfl⟩
    · go_enter Try.func83, Try.ntmps83
      go_wp2
      go_ret
      exact ⟨ret_bool (by simp [inB]; omega), rfl⟩
  · go_enter Try.func83, Try.ntmps83
    go_wp2
    go_ret
    exact ⟨ret_bool (by simp [inB]; omega), rfl⟩

set_option maxHeartbeats 400000 in
theorem l1Node_any (n v : Int) (x : Value) (w : World) :
    Calls Try.prog 82 #[.agg #[.int .i64 n, x], .int .i64 v] w fun e w' => e = .returned (.bool (nodeB n v)) ∧ Bl w w' := by
  go_enter Try.func82, Try.ntmps82
  go_wp2_with (go_at_call 83; refine (l1In_any _ _ _ _).mono ?_; rintro e w' ⟨rfl, rfl⟩)
  go_ret
  exact ⟨ret_bool rfl, (by repeat' (first | exact Bl.refl _ | with_reducible assumption | with_reducible refine Bl.drew_ ?_ | with_reducible refine Bl.drewN_ ?_ _ | with_reducible refine Bl.alloc_ ?_ _ | with_reducible refine Bl.trans_ ?_ (by assumption) | with_reducible refine Bl.trans_ ?_ (And.left (by assumption))))⟩

set_option maxHeartbeats 400000 in
theorem isNode_any (n v : Int) (x : Value) (w : World) :
    Calls Try.prog 124 #[.agg #[.int .i64 n, x], .int .i64 v] w fun e w' => e = .returned (.bool (decide (0 ≤ v ∧ v < n))) ∧ Bl w w' := by
  by_cases h1 : 0 ≤ v
  · by_cases h2 : v < n
    · go_enter Try.func124, Try.ntmps124
      go_wp2
      go_ret
      exact ⟨ret_bool (by simp; omega), (by repeat' (first | exact Bl.refl _ | with_reducible assumption | with_reducible refine Bl.drew_ ?_ | with_reducible refine Bl.drewN_ ?_ _ | with_reducible refine Bl.alloc_ ?_ _ | with_reducible refine Bl.trans_ ?_ (by assumption) | with_reducible refine Bl.trans_ ?_ (And.left (by assumption))))⟩
    · go_enter Try.func124, Try.ntmps124
      go_wp2
      go_ret
      exact ⟨ret_bool (by simp; omega), (by repeat' (first | exact Bl.refl _ | with_reducible assumption | with_reducible refine Bl.drew_ ?_ | with_reducible refine Bl.drewN_ ?_ _ | with_reducible refine Bl.alloc_ ?_ _ | with_reducible refine Bl.trans_ ?_ (by assumption) | with_reducible refine Bl.trans_ ?_ (And.left (by assumption))))⟩
  · go_enter Try.func124, Try.ntmps124
    go_wp2
    go_ret
    exact ⟨ret_bool (by simp; omega), (by repeat' (first | exact Bl.refl _ | with_reducible assumption | with_reducible refine Bl.drew_ ?_ | with_reducible refine Bl.drewN_ ?_ _ | with_reducible refine Bl.alloc_ ?_ _ | with_reducible refine Bl.trans_ ?_ (by assumption) | with_reducible refine Bl.trans_ ?_ (And.left (by assumption))))⟩

set_option maxHeartbeats 400000 in
theorem isNaN_any (n : Int) (w : World) :
    Calls Try.prog 163 #[.int .i64 n] w fun e w' => e = .returned (.bool false) ∧ w = w' := by
  go_enter Try.func163, Try.ntmps163
  go_wp2
  go_ret
  exact ⟨ret_bool (by simp), rfl⟩

set_option maxHeartbeats 400000 in
theorem cmp_any (a b : Int) (w : World) :
    Calls Try.prog 157 #[.int .i64 a, .int .i64 b] w fun e w' => e = .returned (.int .i64 (cmpI a b)) ∧ w = w' := by
  by_cases h1 : a < b
  · go_enter Try.func157, Try.ntmps157
    go_wp2_with (go_at_call 163; refine (isNaN_any _ _).mono ?_; rintro e w' ⟨rfl, rfl⟩)
    go_ret
    exact ⟨ret_int (cmpI_lt h1).symm, rfl⟩
  · by_cases h2 : b < a
    · go_enter Try.func157, Try.ntmps157
      go_wp2_with (go_at_call 163; refine (isNaN_any _ _).mono ?_; rintro e w' ⟨rfl, rfl⟩)
      go_ret
      exact ⟨ret_int (cmpI_gt h2).symm, rfl⟩
    · go_enter Try.func157, Try.ntmps157
      go_wp2_with (go_at_call 163; refine (isNaN_any _ _).mono ?_; rintro e w' ⟨rfl, rfl⟩)
      go_ret
      exact ⟨ret_int (cmpI_eq (by omega) (by omega)).symm, rfl⟩

set_option maxHeartbeats 400000 in
theorem l1Ahead_any (a b x c d y : Int) (w : World) :
    Calls Try.prog 128 #[.agg #[.int .i64 a, .int .i64 b, .int .i64 x], .agg #[.int .i64 c, .int .i64 d, .int .i64 y]] w fun e w' => e = .returned (.bool (aheadB a b c d)) ∧ Bl w w' := by
  by_cases h1 : a < c
  · go_enter Try.func128, Try.ntmps128
    go_wp2
    go_ret
    exact ⟨ret_bool (by simp [aheadB]; omega), (by repeat' (first | exact Bl.refl _ | with_reducible assumption | with_reducible refine Bl.drew_ ?_ | with_reducible refine Bl.drewN_ ?_ _ | with_reducible refine Bl.alloc_ ?_ _ | with_reducible refine Bl.trans_ ?_ (by assumption) | with_reducible refine Bl.trans_ ?_ (And.left (by assumption))))⟩
  · by_cases h2 : a = c
    · subst h2
      by_cases h3 : b < d
      · go_enter Try.func128, Try.ntmps128
        go_wp2
        go_ret
        exact ⟨ret_bool (by simp [aheadB]; omega), (by repeat' (first | exact Bl.refl _ | with_reducible assumption | with_reducible refine Bl.drew_ ?_ | with_reducible refine Bl.drewN_ ?_ _ | with_reducible refine Bl.alloc_ ?_ _ | with_reducible refine Bl.trans_ ?_ (by assumption) | with_reducible refine Bl.trans_ ?_ (And.left (by assumption))))⟩
      · go_enter Try.func128, Try.ntmps128
        go_wp2
        go_ret
        exact ⟨ret_bool (by simp [aheadB]; omega), (by repeat' (first | exact Bl.refl _ | with_reducible assumption | with_reducible refine Bl.drew_ ?_ | with_reducible refine Bl.drewN_ ?_ _ | with_reducible refine Bl.alloc_ ?_ _ | with_reducible refine Bl.trans_ ?_ (by assumption) | with_reducible refine Bl.trans_ ?_ (And.left (by assumption))))⟩
    · go_enter Try.func128, Try.ntmps128
      go_wp2
      go_ret
      exact ⟨ret_bool (by simp [aheadB]; omega), (by repeat' (first | exact Bl.refl _ | with_reducible assumption | with_reducible refine Bl.drew_ ?_ | with_reducible refine Bl.drewN_ ?_ _ | with_reducible refine Bl.alloc_ ?_ _ | with_reducible refine Bl.trans_ ?_ (by assumption) | with_reducible refine Bl.trans_ ?_ (And.left (by assumption))))⟩



set_option maxHeartbeats 400000 in
theorem isPair_any (n u v : Int) (x : Value) (w : World) :
    Calls Try.prog 155 #[.agg #[.int .i64 n, x], .int .i64 u, .int .i64 v] w fun e w' => e = .returned (.bool (pairB n u v)) ∧ Bl w w' := by
  by_cases h1 : 0 ≤ u ∧ u < n
  · by_cases h2 : 0 ≤ v ∧ v < n
    · by_cases h3 : u = v
      · subst h3
        go_enter Try.func155, Try.ntmps155
        go_wp2_with (go_at_call 124; refine (isNode_any _ _ _ _).mono ?_; rintro e w' ⟨rfl, hb⟩; obtain ⟨hc, hf⟩ := bcell hb)
        go_ret
        exact ⟨ret_bool (by simp [pairB]), (by repeat' (first | exact Bl.refl _ | with_reducible assumption | with_reducible refine Bl.drew_ ?_ | with_reducible refine Bl.drewN_ ?_ _ | with_reducible refine Bl.alloc_ ?_ _ | with_reducible refine Bl.trans_ ?_ (by assumption) | with_reducible refine Bl.trans_ ?_ (And.left (by assumption))))⟩
      · have h3' : (u != v) = true := by simpa using h3
        go_enter Try.func155, Try.ntmps155
        go_wp2_with (go_at_call 124; refine (isNode_any _ _ _ _).mono ?_; rintro e w' ⟨rfl, hb⟩; obtain ⟨hc, hf⟩ := bcell hb)
        go_ret
        exact ⟨ret_bool (by simp [pairB]; omega), (by repeat' (first | exact Bl.refl _ | with_reducible assumption | with_reducible refine Bl.drew_ ?_ | with_reducible refine Bl.drewN_ ?_ _ | with_reducible refine Bl.alloc_ ?_ _ | with_reducible refine Bl.trans_ ?_ (by assumption) | with_reducible refine Bl.trans_ ?_ (And.left (by assumption))))⟩
    · go_enter Try.func155, Try.ntmps155
      go_wp2_with (go_at_call 124; refine (isNode_any _ _ _ _).mono ?_; rintro e w' ⟨rfl, hb⟩; obtain ⟨hc, hf⟩ := bcell hb)
      go_ret
      exact ⟨ret_bool (by simp [pairB]; omega), (by repeat' (first | exact Bl.refl _ | with_reducible assumption | with_reducible refine Bl.drew_ ?_ | with_reducible refine Bl.drewN_ ?_ _ | with_reducible refine Bl.alloc_ ?_ _ | with_reducible refine Bl.trans_ ?_ (by assumption) | with_reducible refine Bl.trans_ ?_ (And.left (by assumption))))⟩
  · go_enter Try.func155, Try.ntmps155
    go_wp2_with (go_at_call 124; refine (isNode_any _ _ _ _).mono ?_; rintro e w' ⟨rfl, hb⟩; obtain ⟨hc, hf⟩ := bcell hb)
    go_ret
    exact ⟨ret_bool (by simp [pairB]; omega), (by repeat' (first | exact Bl.refl _ | with_reducible assumption | with_reducible refine Bl.drew_ ?_ | with_reducible refine Bl.drewN_ ?_ _ | with_reducible refine Bl.alloc_ ?_ _ | with_reducible refine Bl.trans_ ?_ (by assumption) | with_reducible refine Bl.trans_ ?_ (And.left (by assumption))))⟩

theorem arcB_no {n u v x : Int} (h : pairB n u v = false) : arcB n u v x = false := by
  simp [pairB, arcB] at *
  omega
theorem arcB_yes {n u v x : Int} (h : pairB n u v = true) : arcB n u v x = decide (1 ≤ x ∧ x ≤ 1000) := by
  simp [pairB, arcB] at *
  omega

set_option maxHeartbeats 400000 in
theorem arcOk_any (n u v x : Int) (g : Value) (w : World) :
    Calls Try.prog 129 #[.agg #[.int .i64 n, g], .agg #[.int .i64 u, .int .i64 v, .int .i64 x]] w fun e w' => e = .returned (.bool (arcB n u v x)) ∧ Bl w w' := by
  by_cases h1 : pairB n u v = true
  · have ha := Lib.hid (arcB_yes (x := x) h1)
    by_cases h2 : 1 ≤ x
    · by_cases h3 : x ≤ 1000
      · go_enter Try.func129, Try.ntmps129
        go_wp2_with (go_at_call 155; refine (isPair_any _ _ _ _ _).mono ?_; rintro e w' ⟨rfl, hb⟩; obtain ⟨hc, hf⟩ := bcell hb)
        go_ret
        exact ⟨ret_bool (by rw [ha.out]; simp; omega), (by repeat' (first | exact Bl.refl _ | with_reducible assumption | with_reducible refine Bl.drew_ ?_ | with_reducible refine Bl.drewN_ ?_ _ | with_reducible refine Bl.alloc_ ?_ _ | with_reducible refine Bl.trans_ ?_ (by assumption) | with_reducible refine Bl.trans_ ?_ (And.left (by assumption))))⟩
      · go_enter Try.func129, Try.ntmps129
        go_wp2_with (go_at_call 155; refine (isPair_any _ _ _ _ _).mono ?_; rintro e w' ⟨rfl, hb⟩; obtain ⟨hc, hf⟩ := bcell hb)
        go_ret
        exact ⟨ret_bool (by rw [ha.out]; simp; omega), (by repeat' (first | exact Bl.refl _ | with_reducible assumption | with_reducible refine Bl.drew_ ?_ | with_reducible refine Bl.drewN_ ?_ _ | with_reducible refine Bl.alloc_ ?_ _ | with_reducible refine Bl.trans_ ?_ (by assumption) | with_reducible refine Bl.trans_ ?_ (And.left (by assumption))))⟩
    · go_enter Try.func129, Try.ntmps129
      go_wp2_with (go_at_call 155; refine (isPair_any _ _ _ _ _).mono ?_; rintro e w' ⟨rfl, hb⟩; obtain ⟨hc, hf⟩ := bcell hb)
      go_ret
      exact ⟨ret_bool (by rw [ha.out]; simp; omega), (by repeat' (first | exact Bl.refl _ | with_reducible assumption | with_reducible refine Bl.drew_ ?_ | with_reducible refine Bl.drewN_ ?_ _ | with_reducible refine Bl.alloc_ ?_ _ | with_reducible refine Bl.trans_ ?_ (by assumption) | with_reducible refine Bl.trans_ ?_ (And.left (by assumption))))⟩
  · have h1' : pairB n u v = false := by simpa using h1
    have ha := Lib.hid (arcB_no (x := x) h1')
    clear h1
    go_enter Try.func129, Try.ntmps129
    go_wp2_with (go_at_call 155; refine (isPair_any _ _ _ _ _).mono ?_; rintro e w' ⟨rfl, hb⟩; obtain ⟨hc, hf⟩ := bcell hb)
    go_ret
    exact ⟨ret_bool (by rw [ha.out]), (by repeat' (first | exact Bl.refl _ | with_reducible assumption | with_reducible refine Bl.drew_ ?_ | with_reducible refine Bl.drewN_ ?_ _ | with_reducible refine Bl.alloc_ ?_ _ | with_reducible refine Bl.trans_ ?_ (by assumption) | with_reducible refine Bl.trans_ ?_ (And.left (by assumption))))⟩

end Go.Proofs.Ytlddileiecnkjaa

set_option linter.unusedSimpArgs false
set_option linter.unusedVariables false
namespace Go.Proofs.Ytlddileiecnkjaa
open Go.RowKit

def orI (a b : Int) : Int := if a = 0 then b else a

set_option maxHeartbeats 400000 in
theorem or_any (a b : Int) (g c : Nat) (w : World) (h0 : w.cell? ⟨g, 0, none⟩ = some (.int .i64 a)) (h1 : w.cell? ⟨g, 1, none⟩ = some (.int .i64 b)) :
    Calls Try.prog 156 #[.slice (some ⟨g, 0, none⟩) 2 c] w fun e w' => e = .returned (.int .i64 (orI a b)) ∧ w = w' := by
  by_cases ha : a = 0
  · subst ha
    by_cases hb : b = 0
    · subst hb
      go_enter Try.func156, Try.ntmps156
      go_wp2
      refine wp_loop_rounds 3 ?_
      rw [rounds_succ]
      go_wp2
      rw [rounds_succ]
      go_wp2
      rw [rounds_succ]
      go_wp2
      go_ret
      exact ⟨ret_int rfl, rfl⟩
    · have hb' : (b != 0) = true := by simpa using hb
      go_enter Try.func156, Try.ntmps156
      go_wp2
      refine wp_loop_rounds 3 ?_
      rw [rounds_succ]
      go_wp2
      rw [rounds_succ]
      go_wp2
      go_ret
      exact ⟨ret_int rfl, rfl⟩
  · have ha' : (a != 0) = true := by simpa using ha
    go_enter Try.func156, Try.ntmps156
    go_wp2
    refine wp_loop_rounds 3 ?_
    rw [rounds_succ]
    go_wp2
    go_ret
    exact ⟨ret_int (by simp [orI, ha]), rfl⟩

/-- The order of two arcs by their ends. -/
def endsI (a b c d : Int) : Int := orI (cmpI a c) (cmpI b d)

theorem two_boxes {w wx : World} {a b x c d y : Value} {t : TypeId} (h : Bl ((w.alloc (.cells #[a, b, x] t)).alloc (.cells #[c, d, y] t)) wx) :
    Bl ((w.alloc (.cells #[a, b, x] t)).alloc (.cells #[c, d, y] t)) wx ∧ wx.cell? ⟨w.heap.size, 0, none⟩ = some a ∧ wx.cell? ⟨w.heap.size, 1, none⟩ = some b ∧
      wx.cell? ⟨w.heap.size + 1, 0, none⟩ = some c ∧ wx.cell? ⟨w.heap.size + 1, 1, none⟩ = some d := by
  obtain ⟨hc, _⟩ := bcell h
  exact ⟨h, by rw [hc _ _ (by simp; omega)]; simp [go_sem], by rw [hc _ _ (by simp; omega)]; simp [go_sem], by rw [hc _ _ (by simp)]; simp [go_sem], by rw [hc _ _ (by simp)]; simp [go_sem]⟩

set_option maxHeartbeats 400000 in
theorem ends_any (a b x c d y : Int) (w : World) :
    Calls Try.prog 130 #[.agg #[.int .i64 a, .int .i64 b, .int .i64 x], .agg #[.int .i64 c, .int .i64 d, .int .i64 y]] w fun e w' => e = .returned (.int .i64 (endsI a b c d)) ∧ Bl w w' := by
  go_enter Try.func130, Try.ntmps130
  go_wp2
  go_region_held3 (fun wx => Bl ((w.alloc (.cells #[.int .i64 a, .int .i64 b, .int .i64 x] 146)).alloc (.cells #[.int .i64 c, .int .i64 d, .int .i64 y] 146)) wx ∧ wx.cell? ⟨w.heap.size, 0, none⟩ = some (.int .i64 a) ∧ wx.cell? ⟨w.heap.size, 1, none⟩ = some (.int .i64 b) ∧ wx.cell? ⟨w.heap.size + 1, 0, none⟩ = some (.int .i64 c) ∧ wx.cell? ⟨w.heap.size + 1, 1, none⟩ = some (.int .i64 d)) (exact two_boxes (by repeat' (first | exact Bl.refl _ | with_reducible assumption | with_reducible refine Bl.drew_ ?_ | with_reducible refine Bl.drewN_ ?_ _ | with_reducible refine Bl.alloc_ ?_ _ | with_reducible refine Bl.trans_ ?_ (by assumption) | with_reducible refine Bl.trans_ ?_ (And.left (by assumption))))) (first | (go_at_call 157; refine (cmp_any _ _ _).mono ?_; rintro e w' ⟨rfl, rfl⟩) | (go_at_call 156; refine (or_any (cmpI a c) (cmpI b d) _ _ _ ?_ ?_).mono ?_; (· go_simp); (· go_simp); rintro e w' ⟨rfl, rfl⟩))
  go_wp2
  go_ret
  exact ⟨ret_int rfl, (by repeat' (first | exact Bl.refl _ | with_reducible assumption | with_reducible refine Bl.drew_ ?_ | with_reducible refine Bl.drewN_ ?_ _ | with_reducible refine Bl.alloc_ ?_ _ | with_reducible refine Bl.trans_ ?_ (by assumption) | with_reducible refine Bl.trans_ ?_ (And.left (by assumption))))⟩


end Go.Proofs.Ytlddileiecnkjaa

set_option linter.unusedSimpArgs false
set_option linter.unusedVariables false
namespace Go.Proofs.Ytlddileiecnkjaa
open Go.RowKit

/-- An arc as three numbers: from, to, weight. -/
abbrev Arc3 := Int × Int × Int

/-- The slice at A reads as the list L of arcs, and lies below block B. -/
def ArcsAt (w : World) (B : Nat) (A : Option Addr) (L : List Arc3) : Prop :=
  0 < L.length → ∃ g off, A = some ⟨g, off, none⟩ ∧ g < B ∧ ∀ k (h : k < L.length), w.cell? ⟨g, off + k * 3, none⟩ = some (.int .i64 L[k].1) ∧
    w.cell? ⟨g, off + k * 3 + 1, none⟩ = some (.int .i64 L[k].2.1) ∧ w.cell? ⟨g, off + k * 3 + 2, none⟩ = some (.int .i64 L[k].2.2)

theorem ArcsAt.keep {w w' : World} {B : Nat} {A : Option Addr} {L : List Arc3} (h : ArcsAt w B A L) (hk : ∀ b o, b < B → w'.cell? ⟨b, o, none⟩ = w.cell? ⟨b, o, none⟩) : ArcsAt w' B A L := fun h0 => by
  obtain ⟨g, off, e, hg, hc⟩ := h h0
  exact ⟨g, off, e, hg, fun k hk' => by rw [hk _ _ hg, hk _ _ hg, hk _ _ hg]; exact hc k hk'⟩
theorem ArcsAt.more {w : World} {B B' : Nat} {A : Option Addr} {L : List Arc3} (h : ArcsAt w B A L) (hB : B ≤ B') : ArcsAt w B' A L := fun h0 => by
  obtain ⟨g, off, e, hg, hc⟩ := h h0
  exact ⟨g, off, e, Nat.lt_of_lt_of_le hg hB, hc⟩
theorem ArcsAt.bl {w w' : World} {A : Option Addr} {L : List Arc3} (h : ArcsAt w w.heap.size A L) (hb : Bl w w') : ArcsAt w' w'.heap.size A L :=
  (h.keep (bcell hb).1).more hb.size




end Go.Proofs.Ytlddileiecnkjaa
