/-
  What is proved here: append of whatever slice to a row of one's own; frames of several blocks; a range over a function whose iterator keeps a state of its own in memory: a law for the statement, where a contract of the iterator is given; arrays of 24 numbers, in blocks of their own; a whole array is loaded and stored by laws; contracts of the laws' small functions on slices of numbers; toInt64S makes new memory that reads as what it is handed; what a slice of numbers that comes in is made of. No conditions beyond those that each theorem states.
-/
import Derived.Test.YtlddileiecnkjaaV6G01
import Derived.Deep.AppendLies
import Derived.Deep.RegionLaw
import Derived.Deep.Draws
import Derived.Maps.AppendAt
import Derived.OwnWalk
import Derived.Lib.AppendZeros
import Derived.RangeFuncNested
import Derived.RangeFuncBound
import Derived.RangeFuncCalls
import Derived.RangeFuncLeaves
import Derived.Shelf.Abstract
import Derived.Shelf.RegionOpen
import Derived.OwnWalkIn
import Derived.TacticsInMore
import Derived.LoopNIn
import Derived.LoopIn
import Derived.Deep.MidRow
import Derived.Laws.Rows
import Derived.Test.YtlddileiecnkjaaV6Z0
set_option linter.unusedSimpArgs false
set_option linter.unusedVariables false
namespace Go.Proofs.Ytlddileiecnkjaa
open Go.RowKit

theorem block_of_add (a : Addr) (n : Nat) : (a.add n).block = a.block := by unfold Addr.add; split <;> rfl
theorem add_of_add (a : Addr) (i j : Nat) : (a.add i).add j = a.add (i + j) := by
  unfold Addr.add
  by_cases hi : i = 0 <;> by_cases hj : j = 0 <;> simp [hi, hj, Nat.add_assoc]

def Reads (w : World) (B size : Nat) (A : Option Addr) (n : Nat) (xs : List Value) : Prop :=
  xs.length = n * size ∧ (0 < n → ∃ ad, A = some ad ∧ ad.block < B ∧ ∀ j u, xs[j]? = some u → w.cell? (ad.add j) = some u)

section
variable {w w' : World} {B B' size n : Nat} {A : Option Addr} {xs : List Value}
theorem Reads.at_ {k : Nat} (h : Reads w B 1 A n xs) (hk : k < n) : ∃ ad u, A = some ad ∧ ad.block < B ∧ xs[k]? = some u ∧ w.cell? (ad.add k) = some u := by
  obtain ⟨ad, e, hb, hc⟩ := h.2 (by omega)
  have hl : k < xs.length := by have := h.1; omega
  exact ⟨ad, xs[k], e, hb, List.getElem?_eq_getElem hl, hc k _ (List.getElem?_eq_getElem hl)⟩
theorem Reads.keep (h : Reads w B size A n xs) (hk : ∀ p : Addr, p.block < B → w'.cell? p = w.cell? p) : Reads w' B size A n xs :=
  ⟨h.1, fun hn => by
    obtain ⟨ad, e, hb, hc⟩ := h.2 hn
    exact ⟨ad, e, hb, fun j u hu => (hk _ (by rw [block_of_add]; exact hb)).trans (hc j u hu)⟩⟩
theorem Reads.more (h : Reads w B size A n xs) (hB : B ≤ B') : Reads w B' size A n xs :=
  ⟨h.1, fun hn => by
    obtain ⟨ad, e, hb, hc⟩ := h.2 hn
    exact ⟨ad, e, by omega, hc⟩⟩
theorem Reads.below (h : Reads w B size A n xs) (hb : Below B w w') : Reads w' B size A n xs := h.keep fun _ hp => hb.cell hp
theorem Reads.drew (h : Reads w B size A n xs) : Reads w.drew B size A n xs := h
theorem Reads.drewN (h : Reads w B size A n xs) (k : Nat) : Reads (w.drewN k) B size A n xs := h
theorem Reads.alloc (h : Reads w B size A n xs) (hB : B ≤ w.heap.size) (o : Obj) : Reads (w.alloc o) B size A n xs := h.keep fun p hp => World.cell?_alloc_lt w o p (by omega)
theorem Reads.setCell (h : Reads w B size A n xs) {p : Addr} (hB : B ≤ p.block) (u : Value) : Reads (w.setCell p u) B size A n xs :=
  h.keep fun q hq => World.cell?_setCell_other w p q u (fun e => by subst e; omega)
theorem Reads.grown (h : Reads w B size A n xs) {row : Option Nat} (hg : w.grownBy w' row) (hB : B ≤ w.heap.size) (hr : ∀ g, row = some g → B ≤ g) : Reads w' B size A n xs :=
  h.keep fun p hp => World.cell?_of_block (hg.block p.block (by omega) (fun e => by have := hr _ e.symm; omega))
theorem Reads.cut (h : Reads w B size A n xs) {k cap : Nat} (hk : k ≤ n) (hc : n ≤ cap) :
    Reads w B size (if cap = k then A else A.map (·.add (k * size))) (n - k) (xs.drop (k * size)) := by
  refine ⟨by rw [List.length_drop, h.1, Nat.sub_mul], fun hn => ?_⟩
  obtain ⟨ad, rfl, hb, hcell⟩ := h.2 (by omega)
  rw [if_neg (by omega)]
  refine ⟨ad.add (k * size), rfl, by rw [block_of_add]; exact hb, fun j u hu => ?_⟩
  rw [add_of_add]
  exact hcell _ u (by rw [← hu, List.getElem?_drop])
end

section
variable {P : Program} (w : World)

theorem run_append_of_nil (base : Nat) (t ty e : TypeId) (i : TypeInfo) (size : Nat) (ht : P.underlying t = some (.slice e)) (hi : P.info? e = some i)
    (v : Value) (n : Nat) (xs : List Value) (hown : w.ownsRow base e size v n xs) (c : Nat) : (Builtin.append_ #[t, t] ty #[v, .slice none 0 c]).run P w = .ok v w := by
  rcases hown.2 with ⟨rfl, rfl⟩ | ⟨g, cap, cur, rfl, _, _, hnc, _⟩
  · simp [Builtin.append_, run_underlying ht, sizeOf, typeInfo, hi, Builtin.lenOf, Builtin.firstCells]
  · simp [Builtin.append_, run_underlying ht, sizeOf, typeInfo, hi, Builtin.lenOf, Builtin.firstCells, hnc, storeCells]

theorem run_append_any (base : Nat) (t ty e : TypeId) (i : TypeInfo) (z : Value) (size bytes : Nat) (ht : P.underlying t = some (.slice e)) (hi : P.info? e = some i) (hz : i.zero = some z)
    (hsize : i.size = size) (hby : i.bytes = bytes) (hzs : z.cells.size = size) (hsz : 0 < size)
    (v : Value) (n : Nat) (xs : List Value) (hown : w.ownsRow base e size v n xs)
    (B : Nat) (A : Option Addr) (m c : Nat) (news : List Value) (hr : Reads w B size A m news) (h1 : ∀ u ∈ news, u.oneCell' = true)
    (h63 : n + m ≤ maxLen) (hbytes : (n + m) * bytes ≤ 140737488355328) (hbase : base ≤ w.heap.size) :
    ∃ v' w', (Builtin.append_ #[t, t] ty #[v, .slice A m c]).run P w = .ok v' w' ∧ w'.ownsRow base e size v' (n + m) (xs ++ news) ∧ w.grownBy w' v.ownBlock ∧
      (v'.ownBlock = v.ownBlock ∨ v'.ownBlock = some w.heap.size) := by
  rcases A with _ | ad
  · have hm : m = 0 := by
      rcases Nat.eq_zero_or_pos m with h0 | h0
      · exact h0
      · obtain ⟨ad, h, _⟩ := hr.2 h0
        cases h
    subst hm
    have hn : news = [] := List.eq_nil_of_length_eq_zero (by simpa using hr.1)
    subst hn
    exact ⟨v, w, run_append_of_nil w base t ty e i size ht hi v n xs hown c, by simpa using hown, World.grownBy.refl w _, .inl rfl⟩
  · have hcells : ∀ j u, news[j]? = some u → w.cell? (ad.add j) = some u := by
      intro j u hu
      rcases Nat.eq_zero_or_pos m with h0 | h0
      · subst h0
        have hn : news = [] := List.eq_nil_of_length_eq_zero (by simpa using hr.1)
        subst hn
        simp at hu
      · obtain ⟨ad', h, _, hc⟩ := hr.2 h0
        injection h with h
        subst h
        exact hc j u hu
    obtain ⟨v', w', hrun, h2, h3, _, h5⟩ := run_append_own_at (P := P) w base t ty e i z size bytes ht hi hz hsize hby hzs hsz v n xs hown ad m c news hr.1 hcells h1 h63 hbytes hbase
    exact ⟨v', w', hrun, h2, h3, h5⟩

theorem wp_append_any {o : Oper} {a : Act} {K : Act → World → Prop} {Q : Exit → Act → World → Prop} (s x : Operand) (t : TypeId)
    (ho : o.op = .call { callee := .builtin .append, args := #[s, x], argTypes := #[t, t] })
    (base : Nat) (e : TypeId) (i : TypeInfo) (z : Value) (size bytes : Nat) (ht : P.underlying t = some (.slice e)) (hi : P.info? e = some i) (hz : i.zero = some z)
    (hsize : i.size = size) (hby : i.bytes = bytes) (hzs : z.cells.size = size) (hsz : 0 < size)
    (v : Value) (n : Nat) (xs : List Value) (hs : a.eval s = v) (hown : w.ownsRow base e size v n xs)
    (B : Nat) (A : Option Addr) (m c : Nat) (news : List Value) (hx : a.eval x = .slice A m c) (hr : Reads w B size A m news) (h1 : ∀ u ∈ news, u.oneCell' = true)
    (h63 : n + m ≤ maxLen) (hbytes : (n + m) * bytes ≤ 140737488355328) (hbase : base ≤ w.heap.size)
    (h : ∀ v' w', w'.ownsRow base e size v' (n + m) (xs ++ news) → w.grownBy w' v.ownBlock → (v'.ownBlock = v.ownBlock ∨ v'.ownBlock = some w.heap.size) → K (a.put o.dst v') w') : o.wp P a w K Q := by
  obtain ⟨v', w', hrun, h2, h3, h4⟩ := run_append_any (P := P) w base t o.type e i z size bytes ht hi hz hsize hby hzs hsz v n xs hown B A m c news hr h1 h63 hbytes hbase
  unfold Oper.wp execOp
  simp only [ho, resolve, invoke, builtin, Sem.run_bind, Sem.run_pure, Result.andThen_ok, List.map_toArray, List.map_cons, List.map_nil, hs, hx, hrun]
  exact h v' w' h2 h3 h4

theorem wpList_append_any {ops : Array Oper} {rest : List Oper} {o : Oper} {a : Act} {Q : Exit → Act → World → Prop} (hgd : o.guard = none) (s x : Operand) (t : TypeId)
    (ho : o.op = .call { callee := .builtin .append, args := #[s, x], argTypes := #[t, t] })
    (base : Nat) (e : TypeId) (i : TypeInfo) (z : Value) (size bytes : Nat) (ht : P.underlying t = some (.slice e)) (hi : P.info? e = some i) (hz : i.zero = some z)
    (hsize : i.size = size) (hby : i.bytes = bytes) (hzs : z.cells.size = size) (hsz : 0 < size)
    (v : Value) (n : Nat) (xs : List Value) (hs : a.eval s = v) (hown : w.ownsRow base e size v n xs)
    (B : Nat) (A : Option Addr) (m c : Nat) (news : List Value) (hx : a.eval x = .slice A m c) (hr : Reads w B size A m news) (h1 : ∀ u ∈ news, u.oneCell' = true)
    (h63 : n + m ≤ maxLen) (hbytes : (n + m) * bytes ≤ 140737488355328) (hbase : base ≤ w.heap.size)
    (h : ∀ v' w', w'.ownsRow base e size v' (n + m) (xs ++ news) → w.grownBy w' v.ownBlock → (v'.ownBlock = v.ownBlock ∨ v'.ownBlock = some w.heap.size) → wpList P ops Q rest (a.put o.dst v') w') : wpList P ops Q (o :: rest) a w :=
  wpList_plain hgd fun _ hK => wp_append_any w s x t ho base e i z size bytes ht hi hz hsize hby hzs hsz v n xs hs hown B A m c news hx hr h1 h63 hbytes hbase fun v' w' h2 h3 h4 => hK _ _ (h v' w' h2 h3 h4)

end


theorem reads_of_cells {w : World} {B size n : Nat} {A : Option Addr} {vs : List Value} (h : CellsAt w B A vs) (hl : vs.length = n * size) (hs : 0 < size) : Reads w B size A n vs := by
  refine ⟨hl, fun hn => ?_⟩
  have h0 : 0 < vs.length := by rw [hl]; exact Nat.mul_pos hn hs
  obtain ⟨g, off, rfl, hg, hc⟩ := h h0
  refine ⟨_, rfl, hg, fun j u hu => ?_⟩
  obtain ⟨hj, rfl⟩ := List.getElem?_eq_some_iff.1 hu
  rw [Go.WideShapes.add_plain]
  exact hc j hj

/-- Blocks that are in S may have turned, and there may be new ones; nothing else has turned. -/
structure Turn (S : Nat → Prop) (w w' : World) : Prop where
  os : w'.os = w.os
  tape : w'.tape = w.tape
  output : w'.output = w.output
  size : w.heap.size ≤ w'.heap.size
  block : ∀ k, k < w.heap.size → ¬ S k → w'.heap[k]? = w.heap[k]?
theorem Turn.refl (S : Nat → Prop) (w : World) : Turn S w w := ⟨rfl, rfl, rfl, Nat.le_refl _, fun _ _ _ => rfl⟩
theorem Turn.of_bl {S : Nat → Prop} {w w' : World} (h : Bl w w') : Turn S w w' := by
  have h' : Below w.heap.size w w' := h
  exact ⟨h'.os, h'.tape, h'.output, h'.size, fun k hk _ => h'.block k hk⟩
theorem Turn.of_grown {S : Nat → Prop} {w w' : World} {row : Option Nat} (h : w.grownBy w' row) (hr : ∀ k, row = some k → S k) : Turn S w w' :=
  ⟨h.os, h.tape, h.output, h.size, fun k hk hS => h.block k hk (fun e => hS (hr k e.symm))⟩
/-- Two turns, the blocks of the second lying among those of the first or being new. -/
theorem Turn.trans {S T : Nat → Prop} {a b c : World} (h : Turn S a b) (k : Turn T b c) (hT : ∀ i, i < a.heap.size → T i → S i) : Turn S a c :=
  ⟨k.os.trans h.os, k.tape.trans h.tape, k.output.trans h.output, Nat.le_trans h.size k.size,
    fun i hi hS => (k.block i (Nat.lt_of_lt_of_le hi h.size) (fun e => hS (hT i hi e))).trans (h.block i hi hS)⟩
theorem Turn.bl {S : Nat → Prop} {a b c : World} (h : Turn S a b) (k : Bl b c) : Turn S a c := h.trans (Turn.of_bl (S := fun _ => False) k) (fun _ _ h => h.elim)
theorem Turn.set {S : Nat → Prop} {a w : World} (h : Turn S a w) {p : Addr} (hp : S p.block ∨ a.heap.size ≤ p.block) (u : Value) : Turn S a (w.setCell p u) :=
  ⟨h.os, h.tape, h.output, by simpa [World.setCell] using h.size, fun i hi hS => (Below.heap_setCell w p u i (by
    rintro rfl
    rcases hp with hp | hp
    · exact hS hp
    · omega)).trans (h.block i hi hS)⟩
theorem Turn.more {S T : Nat → Prop} {a b : World} (h : Turn S a b) (k : ∀ i, i < a.heap.size → S i → T i) : Turn T a b :=
  ⟨h.os, h.tape, h.output, h.size, fun i hi hT => h.block i hi (fun e => hT (k i hi e))⟩
theorem Turn.to_bl {S : Nat → Prop} {W a b : World} (h : Bl W a) (k : Turn S a b) (hS : ∀ i, S i → W.heap.size ≤ i) : Bl W b := by
  have h' : Below W.heap.size W a := h
  exact ⟨k.os.trans h'.os, k.tape.trans h'.tape, k.output.trans h'.output, Nat.le_trans h'.size k.size,
    fun i hi => (k.block i (Nat.lt_of_lt_of_le hi h'.size) (fun e => by have := hS i e; omega)).trans (h'.block i hi)⟩
theorem Turn.cell {S : Nat → Prop} {w w' : World} (h : Turn S w w') {g : Nat} (hg : g < w.heap.size) (hS : ¬ S g) (o : Nat) : w'.cell? ⟨g, o, none⟩ = w.cell? ⟨g, o, none⟩ :=
  World.cell?_of_block (a := ⟨g, o, none⟩) (h.block g hg hS)
theorem Owns.turn {t : TypeId} {s : Nat} {w w' : World} {B : Nat} {v : Value} {n : Nat} {vs : List Value} {S : Nat → Prop} (h : Owns t s w B v n vs) (k : Turn S w w') (hS : ∀ g, v.ownBlock = some g → ¬ S g) : Owns t s w' B v n vs := by
  have h' : w.ownsRow B t s v n vs := h
  refine ⟨h'.1, ?_⟩
  rcases h'.2 with ⟨e, h0⟩ | ⟨g, cap, cur, e, hB, hg, hnc, hcm, hcs, htake⟩
  · exact .inl ⟨e, h0⟩
  · refine .inr ⟨g, cap, cur, e, hB, ?_, hnc, hcm, hcs, htake⟩
    rw [k.block g (Array.getElem?_eq_some_iff.1 hg).1 (hS g (by rw [e]; rfl))]
    exact hg
theorem CellsAt.turn {w w' : World} {B : Nat} {A : Option Addr} {L : List Value} {S : Nat → Prop} (h : CellsAt w B A L) (hB : B ≤ w.heap.size) (k : Turn S w w') (hS : ∀ g, blockOf A = some g → g < B → ¬ S g) : CellsAt w' B A L := fun hp => by
  obtain ⟨g, off, rfl, hlt, hc⟩ := h hp
  exact ⟨g, off, rfl, hlt, fun j hj => (k.cell (by omega) (hS g rfl hlt) _).trans (hc j hj)⟩

end Go.Proofs.Ytlddileiecnkjaa

set_option linter.unusedSimpArgs false
set_option linter.unusedVariables false
namespace Go.Proofs.Ytlddileiecnkjaa
open Go.RowKit

/-- A change that is made to blocks of K alone, and to new ones; what of them is still held is K'. -/
def Step (K K' : Nat → Prop) (w w' : World) : Prop := Turn K w w' ∧ ∀ i, K' i → K i ∨ w.heap.size ≤ i
theorem Step.refl (K : Nat → Prop) (w : World) : Step K K w w := ⟨Turn.refl _ _, fun i h => .inl h⟩
theorem Step.trans {K1 K2 K3 : Nat → Prop} {a b c : World} (h : Step K1 K2 a b) (k : Step K2 K3 b c) : Step K1 K3 a c :=
  ⟨h.1.trans k.1 (fun i hi h2 => (h.2 i h2).resolve_right (by omega)), fun i hi => by
    rcases k.2 i hi with h' | h'
    · exact h.2 i h'
    · exact .inr (Nat.le_trans h.1.size h')⟩
theorem Step.out {K K' : Nat → Prop} {w w' : World} (h : Step K K' w w') {i : Nat} (hi : i < w.heap.size) (hn : ¬ K i) : ¬ K' i := fun h' => (h.2 i h').elim hn (by omega)

/-- The contract of an iterator. J: what its caller holds between two rounds, and the blocks that it holds it in: of these the iterator turns none. Jx: the same where a round has said that it wants no more. -/
def SeqT {α : Type} (P : Program) (gf : Nat) (lb : Array Value) (encs : α → Array Value) (Pre : List α → α → Prop) (S Sp : List α → Prop) (In : Nat → Prop) (w0 : World) : Prop :=
  ∀ (l : Nat) (J Jx : List α → (Nat → Prop) → World → Prop) (K : Nat → Prop) (W : World), Bl w0 W → (∀ i, K i → ¬ In i) →
    (∀ pre K A B, J pre K A → Turn (fun i => ¬ K i) A B → J pre K B) →
    (∀ pre K A B, Jx pre K A → Turn (fun i => ¬ K i) A B → Jx pre K B) →
    (∀ pre K A, J pre K A → ∀ i, K i → i < A.heap.size) →
    (∀ pre x K W1, J pre K W1 → Pre pre x → YieldAt Fence.wide 0 P l (encs x) W1 fun e W' => ∃ K', Step K K' W1 W' ∧
      ((e = .returned (.bool true) ∧ J (pre ++ [x]) K' W') ∨ (e = .returned (.bool false) ∧ Jx (pre ++ [x]) K' W'))) →
    J [] K W →
    CallsIn Fence.wide 0 P gf (#[.func (.yield l) #[] #[]] ++ lb) W fun e W' => (∃ v, e = .returned v) ∧ ∃ K', Step K K' W W' ∧ ((∃ xs, S xs ∧ J xs K' W') ∨ (∃ pre, Sp pre ∧ Jx pre K' W'))

/-- How the body of a round may be left. -/
def turnPost {α : Type} (I : List α → (Nat → Prop) → World → Prop) (Ix : Code → List α → (Nat → Prop) → World → Prop) (K : Nat → Prop) (xs : List α) (W : World) : Exit → Act → World → Prop
  | .normal, _, W' => ∃ K', Step K K' W W' ∧ I xs K' W'
  | .ret, _, W' => ∃ K', Step K K' W W' ∧ Ix .ret xs K' W'
  | .exit id, _, W' => ∃ K', Step K K' W W' ∧ Ix (.exit id) xs K' W'
  | .goto t, _, W' => ∃ K', Step K K' W W' ∧ Ix (.goto t) xs K' W'
  | .panic _, _, _ => False
  | .outgrown, _, _ => False

theorem turn_put (S : Nat → Prop) (W : World) {l : Nat} (o : Obj) (hl : S l) : Turn S W (W.putObj l o) :=
  Turn.of_grown (grownBy_putObj' W l o) (fun k e => by cases e; exact hl)

/-- The blocks of the caller, without the two of the statement's own. -/
def less2 (K : Nat → Prop) (l D : Nat) (i : Nat) : Prop := K i ∧ i ≠ l ∧ i ≠ D
def more2 (K : Nat → Prop) (l D : Nat) (i : Nat) : Prop := K i ∨ i = l ∨ i = D
theorem less_more {K : Nat → Prop} {l D : Nat} (hl : ¬ K l) (hD : ¬ K D) : less2 (more2 K l D) l D = K := by
  funext i
  apply propext
  unfold less2 more2
  constructor
  · rintro ⟨h | h | h, h1, h2⟩
    · exact h
    · exact absurd h h1
    · exact absurd h h2
  · intro h
    exact ⟨.inl h, fun e => hl (e ▸ h), fun e => hD (e ▸ h)⟩

variable {P : Program}
set_option maxHeartbeats 1000000 in
theorem wpIn_range {α : Type} {g : Operand} {ps : Array Tmp} {assign body : Code} {Q : Exit → Act → World → Prop} {a : Act} {w : World} {gf : Nat} {lb : Array Value}
    (hg : a.eval g = .func (.func gf) #[] lb) (eg : ∀ args w, (callFunc gf args).run P w = .ok (.enter gf args) w)
    {encs : α → Array Value} {Pre : List α → α → Prop} {S Sp : List α → Prop} {In : Nat → Prop} {w0 : World} (hseq : SeqT P gf lb encs Pre S Sp In w0) (hb0 : Bl w0 w) (hIn : ∀ i, In i → i < w.heap.size) (hps : ∀ x, (encs x).size = ps.size)
    (I : List α → (Nat → Prop) → World → Prop) (Ix : Code → List α → (Nat → Prop) → World → Prop) (M : List α → α → Act → (Nat → Prop) → World → Prop) (K0 : Nat → Prop) (hK0 : ∀ i, K0 i → ¬ In i)
    (hI : ∀ pre K A B, I pre K A → Turn (fun i => ¬ K i) A B → I pre K B) (hIx : ∀ c pre K A B, Ix c pre K A → Turn (fun i => ¬ K i) A B → Ix c pre K B)
    (hM : ∀ pre x a K A B, M pre x a K A → Turn (fun i => ¬ K i) A B → M pre x a K B)
    (hlt : ∀ pre K A, I pre K A → ∀ i, K i → i < A.heap.size) (h0 : I [] K0 w)
    (hassign : ∀ (l : Nat) (pre : List α) (x : α) (K : Nat → Prop) (W : World) (R : Act → World → Prop), I pre K W → Pre pre x → (∀ a₁ K1 W1, Step K K1 W W1 → M pre x a₁ K1 W1 → R a₁ W1) →
      assign.wpIn (Fence.wide.inRound l) 0 P (Exit.then R (fun _ _ _ => False)) { tmps := (ps.zip (encs x)).foldl (fun t (p, v) => t.setIfInBounds p v) a.tmps, defers := [] } W)
    (hbody : ∀ (l : Nat) (pre : List α) (x : α) (a₁ : Act) (K : Nat → Prop) (W : World), M pre x a₁ K W → Pre pre x → body.wpIn (Fence.wide.inRound l) 0 P (turnPost I Ix K (pre ++ [x]) W) a₁ W)
    (hdone : ∀ (D : Nat) (xs : List α) (K : Nat → Prop) (W : World), w.heap.size ≤ D → S xs → I xs K W → Turn K0 w W → ¬ K D → W.heap[D]? = some (.deferred (some [])) → Q .normal { a with defers := { target := .collected D, args := #[] } :: a.defers } W)
    (hstop : ∀ (D : Nat) (c : Code) (pre : List α) (K : Nat → Prop) (W : World), w.heap.size ≤ D → Sp pre → Ix c pre K W → Turn K0 w W → ¬ K D → W.heap[D]? = some (.deferred (some [])) → c.wpIn Fence.wide 0 P Q { a with defers := { target := .collected D, args := #[] } :: a.defers } W) :
    (Code.rangeFunc g ps assign body).wpIn Fence.wide 0 P Q a w := by
  refine wpIn_rangeFunc fun fn hfn => ?_
  obtain ⟨rec, hrec⟩ : ∃ rec : LoopState → Option Code → Loop, rec = fun st pe => { state := st, pending := pe, fn, tmps := a.tmps, params := ps, assign, body, defers := w.heap.size } := ⟨_, rfl⟩
  generalize hlD : w.heap.size + 1 = l
  generalize hDD : w.heap.size = D
  have hk0 := hlt [] K0 w h0
  have hKl : ¬ K0 l := fun h => by have := hk0 l h; omega
  have hKD : ¬ K0 D := fun h => by have := hk0 D h; omega
  obtain ⟨W1, hW1⟩ : ∃ W1, W1 = (w.alloc (.deferred (some []))).alloc (.loop (rec .ready none)) := ⟨_, rfl⟩
  have hrl : W1.heap[l]? = some (.loop (rec .ready none)) := by
    have := World.alloc_heap_new (w.alloc (.deferred (some []))) (.loop (rec .ready none))
    rwa [World.size_alloc, hlD, ← hW1] at this
  have hrD : W1.heap[D]? = some (.deferred (some [])) := by
    have h1 := Below.heap_alloc (w.alloc (.deferred (some []))) (.loop (rec .ready none)) D (by simp; omega)
    rw [hW1, h1, ← hDD]
    exact World.alloc_heap_new w _
  have hB1 : Bl w W1 := by rw [hW1]; exact ((Bl.refl w).alloc_ _).alloc_ _
  have hs1 : W1.heap.size = w.heap.size + 2 := by rw [hW1]; simp
  obtain ⟨J, hJ⟩ : ∃ J : List α → (Nat → Prop) → World → Prop, J = fun pre K W => I pre (less2 K l D) W ∧ (K l ∧ K D) ∧ W.heap[l]? = some (.loop (rec .ready none)) ∧ W.heap[D]? = some (.deferred (some [])) := ⟨_, rfl⟩
  obtain ⟨Jx, hJx⟩ : ∃ Jx : List α → (Nat → Prop) → World → Prop, Jx = fun pre K W => ∃ c, Ix c pre (less2 K l D) W ∧ (K l ∧ K D) ∧ W.heap[l]? = some (.loop (rec .done (some c))) ∧ W.heap[D]? = some (.deferred (some [])) := ⟨_, rfl⟩
  have wider : ∀ {K : Nat → Prop} {A B : World}, Turn (fun i => ¬ K i) A B → Turn (fun i => ¬ less2 K l D i) A B := fun h => h.more fun i _ hi h' => hi h'.1
  have old : ∀ {K : Nat → Prop} {A B : World} {i : Nat} {o : Obj}, Turn (fun i => ¬ K i) A B → K i → A.heap[i]? = some o → B.heap[i]? = some o := fun h hi ho =>
    (h.block _ (Array.getElem?_eq_some_iff.1 ho).1 (fun h' => h' hi)).trans ho
  refine ⟨l, [{ target := .collected D, args := #[] }], W1, { target := .fn (.func gf) lb, args := #[.func (.yield l) #[] #[]] }, W1, gf, #[.func (.yield l) #[] #[]] ++ lb, W1, ?_, ?_, fun _ _ => trivial, by simp [invoke, go_sem, eg], fun h => by simp [Fence.wide] at h, ?_⟩
  · have := run_enterLoop_outer (P := P) (w := w) fn a.tmps ps assign body
    rw [hW1, hrec, ← hlD, ← hDD]
    exact this
  · simp only [resolve, hg]
    simp [go_sem]
  · refine (hseq l J Jx (more2 K0 l D) W1 (hb0.trans_ hB1) (fun i hi h => by
      have := hIn i h
      rcases hi with hi | hi | hi
      · exact hK0 i hi h
      · omega
      · omega) ?_ ?_ ?_ ?_ ?_).mono ?_
    · rintro pre K A B hj ht
      rw [hJ] at hj ⊢
      exact ⟨hI _ _ _ _ hj.1 (wider ht), hj.2.1, old ht hj.2.1.1 hj.2.2.1, old ht hj.2.1.2 hj.2.2.2⟩
    · rintro pre K A B hj ht
      rw [hJx] at hj ⊢
      obtain ⟨c, h1, h2, h3, h4⟩ := hj
      exact ⟨c, hIx _ _ _ _ _ h1 (wider ht), h2, old ht h2.1 h3, old ht h2.2 h4⟩
    · rintro pre K A hj i hi
      rw [hJ] at hj
      by_cases e1 : i = l
      · subst e1; exact (Array.getElem?_eq_some_iff.1 hj.2.2.1).1
      · by_cases e2 : i = D
        · subst e2; exact (Array.getElem?_eq_some_iff.1 hj.2.2.2).1
        · exact hlt _ _ _ hj.1 i ⟨hi, e1, e2⟩
    · rintro pre x K W hj hpre
      rw [hJ] at hj
      obtain ⟨hi, ⟨hkl, hkD⟩, hl, hd⟩ := hj
      have hll : l < W.heap.size := (Array.getElem?_eq_some_iff.1 hl).1
      have hne : D ≠ l := by omega
      have hy := run_yield (P := P) (args := encs x) hl (by rw [hrec]; exact hps x)
      rw [hrec] at hy
      have hn1 : ¬ less2 K l D l := fun h => h.2.1 rfl
      have hn2 : ¬ less2 K l D D := fun h => h.2.2 rfl
      have hDl : D < W.heap.size := by omega
      refine ⟨fn, _, assign, body, hy, roundIn_of_wpIn hfn (hassign l pre x _ W _ hi hpre fun a₁ K1 Wa hstA hma => ?_)⟩
      have hla := (hstA.1.block l hll hn1).trans hl
      have hda := (hstA.1.block D hDl hn2).trans hd
      have hlla : l < Wa.heap.size := (Array.getElem?_eq_some_iff.1 hla).1
      have hk1 : ¬ K1 l := hstA.out hll hn1
      have hk2 : ¬ K1 D := hstA.out hDl hn2
      refine ⟨_, run_beginRound hla (by rw [hrec]), ?_⟩
      obtain ⟨W2, hW2⟩ : ∃ W2, W2 = Wa.putObj l (.loop { rec .ready none with state := .busy }) := ⟨_, rfl⟩
      rw [← hW2]
      have hl2 : W2.heap[l]? = some (.loop { rec .ready none with state := .busy }) := by rw [hW2]; exact World.putObj_heap_same hlla
      have hd2 : W2.heap[D]? = some (.deferred (some [])) := by rw [hW2]; exact (World.putObj_heap_other hne).trans hda
      have hs2 : W2.heap.size = Wa.heap.size := by rw [hW2]; simp
      have hi2 : M pre x a₁ K1 W2 := by rw [hW2]; exact hM _ _ _ _ _ _ hma (turn_put _ _ _ hk1)
      have t2 : Turn K W W2 := by
        rw [hW2]
        exact (hstA.1.more fun i _ h => h.1).trans (turn_put (fun i => i = l) _ _ rfl) (fun i _ h => by rw [h]; exact hkl)
      have hKK : ∀ i, K1 i → K i ∨ W.heap.size ≤ i := fun i h => (hstA.2 i h).imp (fun h => h.1) id
      have hsA := hstA.1.size
      refine wpIn_mono (hbody l pre x a₁ K1 W2 hi2 hpre) ?_
      -- what the end of a round does
      have fin : ∀ (jump : Option Code) (K' : Nat → Prop) (W3 : World), Step K1 K' W2 W3 →
          (Instr.endRound l jump).run P W3 = .ok (.bool jump.isNone) (W3.putObj l (.loop (rec (if jump.isNone then .ready else .done) jump))) ∧
          Step K (more2 K' l D) W (W3.putObj l (.loop (rec (if jump.isNone then .ready else .done) jump))) ∧ less2 (more2 K' l D) l D = K' ∧ ¬ K' l ∧
          (W3.putObj l (.loop (rec (if jump.isNone then .ready else .done) jump))).heap[l]? = some (.loop (rec (if jump.isNone then .ready else .done) jump)) ∧
          (W3.putObj l (.loop (rec (if jump.isNone then .ready else .done) jump))).heap[D]? = some (.deferred (some [])) := by
        intro jump K' W3 hst
        have hl2' : l < W2.heap.size := by omega
        have hD2' : D < W2.heap.size := by omega
        have hl3 := (hst.1.block l hl2' hk1).trans hl2
        have hd3 := (hst.1.block D hD2' hk2).trans hd2
        have he := run_endRound (P := P) jump hl3
        rw [hrec] at he ⊢
        have hKl' := hst.out hl2' hk1
        have hKD' := hst.out hD2' hk2
        refine ⟨he, ⟨?_, fun i hi => ?_⟩, less_more hKl' hKD', hKl', World.putObj_heap_same (Array.getElem?_eq_some_iff.1 hl3).1, (World.putObj_heap_other hne).trans hd3⟩
        · exact (t2.trans hst.1 (fun i hi h => (hKK i h).resolve_right (by omega))).trans (turn_put (fun i => i = l) _ _ rfl) (fun i _ h => by rw [h]; exact hkl)
        · rcases hi with hi | hi | hi
          · rcases hst.2 i hi with h | h
            · exact hKK i h
            · exact .inr (by omega)
          · exact .inl (hi ▸ hkl)
          · exact .inl (hi ▸ hkD)
      rintro e a3 W3 hp
      cases e with
      | normal =>
        obtain ⟨K', hst, hi3⟩ := hp
        obtain ⟨f1, f2, f3, f4, f5, f6⟩ := fin none K' W3 hst
        refine ⟨_, _, f1, more2 K' l D, f2, .inl ⟨rfl, ?_⟩⟩
        rw [hJ]
        exact ⟨by rw [f3]; exact hI _ _ _ _ hi3 (turn_put _ _ _ f4), ⟨.inr (.inl rfl), .inr (.inr rfl)⟩, f5, f6⟩
      | ret =>
        obtain ⟨K', hst, hi3⟩ := hp
        obtain ⟨f1, f2, f3, f4, f5, f6⟩ := fin (some .ret) K' W3 hst
        refine ⟨_, _, f1, more2 K' l D, f2, .inr ⟨rfl, ?_⟩⟩
        rw [hJx]
        exact ⟨.ret, by rw [f3]; exact hIx _ _ _ _ _ hi3 (turn_put _ _ _ f4), ⟨.inr (.inl rfl), .inr (.inr rfl)⟩, f5, f6⟩
      | exit id =>
        obtain ⟨K', hst, hi3⟩ := hp
        obtain ⟨f1, f2, f3, f4, f5, f6⟩ := fin (some (.exit id)) K' W3 hst
        refine ⟨_, _, f1, more2 K' l D, f2, .inr ⟨rfl, ?_⟩⟩
        rw [hJx]
        exact ⟨.exit id, by rw [f3]; exact hIx _ _ _ _ _ hi3 (turn_put _ _ _ f4), ⟨.inr (.inl rfl), .inr (.inr rfl)⟩, f5, f6⟩
      | goto t =>
        obtain ⟨K', hst, hi3⟩ := hp
        obtain ⟨f1, f2, f3, f4, f5, f6⟩ := fin (some (.goto t)) K' W3 hst
        refine ⟨_, _, f1, more2 K' l D, f2, .inr ⟨rfl, ?_⟩⟩
        rw [hJx]
        exact ⟨.goto t, by rw [f3]; exact hIx _ _ _ _ _ hi3 (turn_put _ _ _ f4), ⟨.inr (.inl rfl), .inr (.inr rfl)⟩, f5, f6⟩
      | panic ch => exact hp.elim
      | outgrown => exact hp.elim
    · rw [hJ]
      exact ⟨by rw [less_more hKl hKD]; exact hI _ _ _ _ h0 (Turn.of_bl hB1), ⟨.inr (.inl rfl), .inr (.inr rfl)⟩, hrl, hrD⟩
    · have back : ∀ {K' : Nat → Prop} {W2 : World} {o : Obj}, Step (more2 K0 l D) K' W1 W2 → Turn K0 w (W2.putObj l o) := fun hst =>
        ((Turn.of_bl (S := K0) hB1).trans hst.1 (fun i hi h => by
          rcases h with h | h | h
          · exact h
          · omega
          · omega)).trans (turn_put (fun i => i = l) _ _ rfl) (fun i hi h => by omega)
      rintro e W2 ⟨⟨v, rfl⟩, K', hst, (⟨xs, hS, hj⟩ | ⟨pre, hSp, hj⟩)⟩
      · rw [hJ] at hj
        obtain ⟨hi, ⟨hkl, hkD⟩, hl, hd⟩ := hj
        have he := run_endLoop (P := P) hl (by rw [hrec]; simp)
        rw [hrec] at he
        refine ⟨none, _, he, hdone D xs (less2 K' l D) _ (by omega) hS (hI _ _ _ _ hi (turn_put _ _ _ fun h => h.2.1 rfl)) (back hst) (fun h => h.2.2 rfl) ((World.putObj_heap_other (by omega)).trans hd)⟩
      · rw [hJx] at hj
        obtain ⟨c, hi, ⟨hkl, hkD⟩, hl, hd⟩ := hj
        have he := run_endLoop (P := P) hl (by rw [hrec]; simp)
        rw [hrec] at he
        refine ⟨some c, _, he, hstop D c pre (less2 K' l D) _ (by omega) hSp (hIx _ _ _ _ _ hi (turn_put _ _ _ fun h => h.2.1 rfl)) (back hst) (fun h => h.2.2 rfl) ((World.putObj_heap_other (by omega)).trans hd)⟩

end Go.Proofs.Ytlddileiecnkjaa

set_option linter.unusedSimpArgs false
set_option linter.unusedVariables false
namespace Go.Proofs.Ytlddileiecnkjaa
open Go.RowKit


/-- The cells of numbers. -/
def csI (V : List Int) : List Value := V.map (.int .i64)
theorem csI_at {V : List Int} {k : Nat} (h : k < (csI V).length) : (csI V)[k] = .int .i64 (V[k]'(by simpa [csI] using h)) := by simp [csI]
theorem csI_len (V : List Int) : (csI V).length = V.length := by simp [csI]


theorem Turn.cells {S : Nat → Prop} {w w' : World} (h : Turn S w w') {g : Nat} (hg : g < w.heap.size) (hS : ¬ S g) (o : Nat) : w'.cell? ⟨g, o, none⟩ = w.cell? ⟨g, o, none⟩ ∧ w'.frozen? ⟨g, o, none⟩ = w.frozen? ⟨g, o, none⟩ :=
  ⟨World.cell?_of_block (h.block g hg hS), World.frozen?_of_block (h.block g hg hS)⟩

/-- An array of 24 numbers. -/
structure NumsAt (w : World) (b : Nat) (E : List Int) : Prop where
  lt : b < w.heap.size
  len : E.length = 24
  cell : ∀ i (h : i < E.length), w.cell? ⟨b, i, none⟩ = some (.int .i64 E[i])
  free : ∀ i, i < 24 → w.frozen? ⟨b, i, none⟩ = false
theorem NumsAt.turn {w w' : World} {b : Nat} {E : List Int} (h : NumsAt w b E) {S : Nat → Prop} (k : Turn S w w') (hS : ¬ S b) : NumsAt w' b E :=
  ⟨Nat.lt_of_lt_of_le h.lt k.size, h.len, fun i hi => (k.cells h.lt hS i).1.trans (h.cell i hi), fun i hi => (k.cells h.lt hS i).2.trans (h.free i hi)⟩
theorem NumsAt.bl {w w' : World} {b : Nat} {E : List Int} (h : NumsAt w b E) (k : Bl w w') : NumsAt w' b E := h.turn (Turn.of_bl (S := fun _ => False) k) id
theorem NumsAt.set {w : World} {b : Nat} {E : List Int} (h : NumsAt w b E) {u : Nat} (x : Int) : NumsAt (w.setCell ⟨b, u, none⟩ (.int .i64 x)) b (E.set u x) := by
  refine ⟨by simpa using h.lt, by simpa using h.len, fun i hi => ?_, fun i hi => by rw [World.frozen?_setCell]; exact h.free i hi⟩
  rw [List.length_set] at hi
  rw [List.getElem_set]
  by_cases e : u = i
  · subst e
    rw [World.cell?_setCell_same' _ _ _ (by rw [h.cell u hi]; rfl), if_pos rfl]
  · rw [World.cell?_setCell_other _ _ _ _ (by intro e'; injection e' with _ e2; exact e e2), h.cell i hi, if_neg e]
theorem NumsAt.range {w : World} {b : Nat} {E : List Int} (h : NumsAt w b E) : w.rangeAt b 0 (csI E) := fun j v hv => by
  obtain ⟨hj, rfl⟩ := List.getElem?_eq_some_iff.1 hv
  rw [csI_len] at hj
  rw [Nat.zero_add, csI_at]
  exact h.cell j hj
theorem setCells_size (b : Nat) : ∀ (vs : List Value) (o : Nat) (w : World), (w.setCells b o vs).heap.size = w.heap.size
  | [], _, _ => rfl
  | v :: r, o, w => by
    rw [World.setCells, setCells_size b r]
    simp
/-- 24 numbers that are stored over 24 cells lie there. -/
theorem NumsAt.stored {w : World} {b : Nat} {E : List Int} (hE : E.length = 24) (hl : b < w.heap.size) (ht : w.there b 0 24) : NumsAt (w.setCells b 0 (csI E)) b E := by
  have hr := World.rangeAt_setCells_same w b 0 (csI E) (by rw [csI_len, hE]; exact ht)
  refine ⟨by rw [setCells_size]; exact hl, hE, fun i hi => ?_, fun i hi => ?_⟩
  · have := hr i (.int .i64 E[i]) (by rw [List.getElem?_eq_getElem (by rw [csI_len]; exact hi), csI_at])
    rwa [Nat.zero_add] at this
  · rw [World.frozen?_setCells]
    have := (ht i hi).2
    rwa [Nat.zero_add] at this


end Go.Proofs.Ytlddileiecnkjaa

set_option linter.unusedSimpArgs false
set_option linter.unusedVariables false
namespace Go.Proofs.Ytlddileiecnkjaa
open Go.RowKit

theorem infoInt : (Try.prog.info? 2).map (fun i => (i.zero, i.size, i.bytes)) = some (some (.int .i64 0), 1, 8) := by kernel_rfl

/-- The slice at A reads as the numbers V, below block B. -/
def IntsAt (w : World) (B : Nat) (A : Option Addr) (V : List Int) : Prop := CellsAt w B A (csI V)
theorem IntsAt.cell {w : World} {B : Nat} {A : Option Addr} {V : List Int} (h : IntsAt w B A V) (h0 : 0 < V.length) :
    ∃ g off, A = some ⟨g, off, none⟩ ∧ g < B ∧ ∀ k (hk : k < V.length), w.cell? ⟨g, off + k, none⟩ = some (.int .i64 V[k]) := by
  obtain ⟨g, off, e, hg, hc⟩ := h (by rw [csI_len]; omega)
  exact ⟨g, off, e, hg, fun k hk => by rw [hc k (by rw [csI_len]; exact hk), csI_at]⟩
theorem IntsAt.bl {w w' : World} {A : Option Addr} {V : List Int} (h : IntsAt w w.heap.size A V) (hb : Bl w w') : IntsAt w' w'.heap.size A V := CellsAt.bl h hb
theorem IntsAt.bl' {w w' : World} {B : Nat} {A : Option Addr} {V : List Int} (h : IntsAt w B A V) (hB : B ≤ w.heap.size) (hb : Bl w w') : IntsAt w' B A V := CellsAt.bl' h hB hb
theorem IntsAt.more {w : World} {B B' : Nat} {A : Option Addr} {V : List Int} (h : IntsAt w B A V) (hB : B ≤ B') : IntsAt w B' A V := CellsAt.more h hB
theorem IntsAt.grown_ {w w' : World} {B : Nat} {A : Option Addr} {V : List Int} {row : Option Nat} (h : IntsAt w B A V) (hB : B ≤ w.heap.size) (hg : w.grownBy w' row)
    (hne : ∀ g, blockOf A = some g → g < B → some g ≠ row) : IntsAt w' B A V := CellsAt.grown_ h hB hg hne
/-- The value v owns the numbers V, in blocks from B on. -/
def OwnN (w : World) (B : Nat) (v : Value) (V : List Int) : Prop := Owns 2 1 w B v V.length (csI V)
theorem OwnN.nil_ (w : World) (B : Nat) : OwnN w B (.slice none 0 0) [] := Owns.nil_ _ _ _ _
theorem OwnN.bl {w w' : World} {B : Nat} {v : Value} {V : List Int} (h : OwnN w B v V) (hb : Bl w w') : OwnN w' B v V := Owns.bl h hb
theorem OwnN.low {w : World} {B B' : Nat} {v : Value} {V : List Int} (h : OwnN w B' v V) (hB : B ≤ B') : OwnN w B v V := Owns.low h hB
theorem OwnN.shape {w : World} {B : Nat} {v : Value} {V : List Int} (h : OwnN w B v V) :
    ∃ A c, v = .slice A V.length c ∧ V.length ≤ c ∧ IntsAt w w.heap.size A V ∧ RowsW 2 1 w A V.length ∧ ∀ g, blockOf A = some g → B ≤ g ∧ g < w.heap.size := by
  have h' := h
  obtain ⟨A, c, rfl, hc, h1, h2, h3⟩ := Owns.shape h
  refine ⟨A, c, rfl, ?_, h1, h2, Owns.lt_ h⟩
  rcases h'.2 with ⟨e, h0⟩ | ⟨g, cap, cur, e, _, _, hnc, _⟩
  · omega
  · injection e with e1 e2 e3
    omega
/-- A new list of numbers is left. -/
def NumsMade (V : List Int) (w : World) (e : Ending) (w' : World) : Prop := ∃ v, e = .returned v ∧ OwnN w' w.heap.size v V ∧ Bl w w'

set_option maxHeartbeats 400000 in
theorem eqInt64S_yes (A1 A2 : Option Addr) (c1 c2 : Nat) (V : List Int) (n : Nat) (hn : n = V.length) (w : World) (hm : n ≤ 9223372036854775807) (H1 : IntsAt w w.heap.size A1 V) (H2 : IntsAt w w.heap.size A2 V) :
    Calls Try.prog 32 #[.slice A1 n c1, .slice A2 n c2] w fun e w' => e = .returned (.bool true) ∧ Bl w w' := by
  have K1 := Lib.hid H1
  have K2 := Lib.hid H2
  have HN := Lib.hid hn
  have hnn : ((n : Int) != (n : Int)) = false := by simp
  clear H1 H2 hn
  go_enter Try.func32, Try.ntmps32
  go_wp2
  go_loopw [5] (fun i wr => ∃ k : Nat, k ≤ n ∧ i = .int .i64 k ∧ Bl w wr) (fun i _ => n - (intOf i).toNat)
  case atStart => exact ⟨0, by omega, rfl, Bl.refl w⟩
  case round =>
    obtain ⟨k, hk, rfl, hbl⟩ := hrel
    by_cases hlt : k < n
    · have hkl : k < V.length := by have := HN.out; omega
      obtain ⟨g1, o1, rfl, hg1, hc1⟩ := K1.out.cell (by omega)
      obtain ⟨g2, o2, rfl, hg2, hc2⟩ := K2.out.cell (by omega)
      have p1 := hc1 k hkl
      have p2 := hc2 k hkl
      clear hc1 hc2
      rw [← (bcell hbl).1 _ _ hg1] at p1
      rw [← (bcell hbl).1 _ _ hg2] at p2
      generalize V[k] = x at p1 p2
      have hxx : (x != x) = false := by simp
      have i1 : (0 : Int) ≤ (k : Int) := by omega
      have i2 : (k : Int) < (n : Int) := by omega
      go_wp2
      go_quiet (fail)
      go_wp2
      go_roundw
      case rel => exact ⟨k + 1, by omega, by go_num, (by repeat' (first | exact Bl.refl _ | with_reducible assumption | with_reducible refine Bl.drew_ ?_ | with_reducible refine Bl.drewN_ ?_ _ | with_reducible refine Bl.alloc_ ?_ _ | with_reducible refine Bl.trans_ ?_ (by assumption) | with_reducible refine Bl.trans_ ?_ (And.left (by assumption))))⟩
      case measure => simp [intOf]; omega
    · go_wp2
      go_ret
      exact ⟨rfl, hbl⟩

set_option maxHeartbeats 1000000 in
theorem markInt64S_any (A : Option Addr) (n c : Nat) (k : Int) (w : World) (hn : n ≤ 1048576) (hk0 : 0 ≤ k) (hk1 : k ≤ 1099511627776) (HR : RowsW 2 1 w A n) :
    Calls Try.prog 34 #[.slice A n c, .int .i64 k] w (MarkRows 2 1 A n k w) := by
  have R := Lib.hid HR
  clear HR
  rcases Nat.eq_zero_or_pos n with rfl | hpos
  · go_enter Try.func34, Try.ntmps34
    go_wp2
    refine wp_loop_rounds 1 ?_
    rw [rounds_succ]
    go_wp2
    go_ret
    exact ⟨ret_int (by simp), fun h => absurd h (by omega), World.grownBy.refl w _, R.out⟩
  · obtain ⟨g, off, m, f, rfl, hm, hr⟩ := R.out hpos
    have hg := hr.lt
    have R0 := Lib.hid hr
    clear hr R
    go_enter Try.func34, Try.ntmps34
    go_wp2
    go_loopw [1, 5] (fun q i wr => ∃ (j : Nat) (f : Nat → Value), j ≤ n ∧ i = .int .i64 j ∧ q = .int .i64 (k + j) ∧ wr.rowIs g 2 m f ∧ w.grownBy wr (some g) ∧ wr.heap.size = w.heap.size ∧
      ∀ t, t < j → f (off + t) = .int .i64 (k + t)) (fun _ i _ => n - (intOf i).toNat)
    case atStart => exact ⟨0, f, by omega, rfl, by simp, R0.out, World.grownBy.refl w _, rfl, fun t h => absurd h (by omega)⟩
    case round =>
      obtain ⟨j, fj, hj, rfl, rfl, hrj, hgr, hsz, hf⟩ := hrel
      have F := Lib.hid hf
      have RJ := Lib.hid hrj
      have GR := Lib.hid hgr
      have SZ := Lib.hid hsz
      by_cases hlt : j < n
      · have q0 := hrj.cell (i := off + j) (by omega)
        have q1 := hrj.frozen (off + j)
        clear hf hrj hgr hsz
        go_wp2
        go_roundw
        case rel => 
          refine ⟨j + 1, _, by omega, by go_num, by go_num, RJ.out.set (off + j) _, grown_set GR.out (.inl rfl) _, by rw [World.size_setCell]; exact SZ.out, fun t ht => ?_⟩
          rcases Nat.lt_or_ge t j with h | h
          · rw [if_neg (by omega)]
            exact F.out t h
          · have e : t = j := by omega
            subst e
            rw [if_pos rfl]
        case measure => simp [intOf]; omega
      · clear hf hrj hgr hsz
        go_wp2
        go_ret
        have e : j = n := by omega
        subst e
        refine ⟨ret_int (by simp), fun _ => ⟨g, off, rfl, by rw [SZ.out]; exact hg, fun t ht => ?_⟩, GR.out, fun _ => ⟨g, off, m, fj, rfl, hm, RJ.out⟩⟩
        rw [Nat.mul_one] at ht
        rw [← F.out t ht]
        exact RJ.out.cell (by omega)


theorem make_ints (n : Nat) (hn : n ≤ 1048576) (w : World) : (Instr.makeSlice 24 (.int .i64 (n : Int)) (.int .i64 (n : Int))).run Try.prog w = .ok (.slice (some ⟨w.heap.size, 0, none⟩) n n) (w.alloc (.cells (madeCells #[.int .i64 0] (n * 1)) 2)) := by
  obtain ⟨i0, hi, hz0, hz1, hz2⟩ := info_parts infoInt
  have h := run_make_rowN (P := Try.prog) 24 2 i0 (.int .i64 0) Try.underlying24 hi hz0 .i64 .i64 n n (Nat.le_refl _) (by rw [hz2]; omega) (by omega) w
  rw [hz1] at h
  exact h


/-- What the marks leave. -/
def MarkN (A : Option Addr) (n : Nat) (k : Int) (w : World) (e : Ending) (w' : World) : Prop :=
  e = .returned (.int .i64 (k + n)) ∧ Marks w' A n k ∧ w.grownBy w' (blockOf A) ∧ RowsW 2 1 w' A n
theorem markN_any (A : Option Addr) (n c : Nat) (k : Int) (w : World) (hn : n ≤ 1048576) (hk0 : 0 ≤ k) (hk1 : k ≤ 1099511627776) (HR : RowsW 2 1 w A n) :
    Calls Try.prog 34 #[.slice A n c, .int .i64 k] w (MarkN A n k w) :=
  (markInt64S_any A n c k w hn hk0 hk1 HR).mono fun e w' h => by
    obtain ⟨a, b, c, d⟩ := h
    rw [Nat.mul_one] at a b
    exact ⟨a, b, c, d⟩

end Go.Proofs.Ytlddileiecnkjaa

set_option linter.unusedSimpArgs false
set_option linter.unusedVariables false
namespace Go.Proofs.Ytlddileiecnkjaa
open Go.ChangeShapes Go.WideShapes Go.ChangeAt Go.RowKit

/-- The cells of n new numbers. -/
def mk1 (n : Nat) : Array Value := madeCells #[.int .i64 0] (n * 1)
theorem size_mk1 (n : Nat) : (mk1 n).size = n := by unfold mk1; rw [size_madeCells, Nat.mul_one]
theorem mk1_row (w : World) (n : Nat) (t : TypeId) : (w.alloc (.cells (mk1 n) t)).rowIs w.heap.size t n (fun i => (mk1 n).getD i undef) := by
  have h := World.rowIs_alloc w (mk1 n) t (fun i => (mk1 n).getD i undef) (fun i hi => by simp [Array.getD, hi])
  rwa [size_mk1] at h
theorem make_nums (n : Nat) (hn : n ≤ 1048576) (w : World) : (Instr.makeSlice 24 (.int .i64 (n : Int)) (.int .i64 (n : Int))).run Try.prog w = .ok (.slice (some ⟨w.heap.size, 0, none⟩) n n) (w.alloc (.cells (mk1 n) 2)) := make_ints n hn w

set_option maxHeartbeats 400000 in
theorem toInt64S_any (A : Option Addr) (n c : Nat) (V : List Int) (hn : n = V.length) (w : World) (hm : n ≤ 1048576) (H1 : IntsAt w w.heap.size A V) :
    Calls Try.prog 28 #[.slice A n c] w fun e w' => e = .returned (.slice (some ⟨w.heap.size, 0, none⟩) n n) ∧ IntsAt w' w'.heap.size (some ⟨w.heap.size, 0, none⟩) V ∧ Bl w w' := by
  have K1 := Lib.hid H1
  have HN := Lib.hid hn
  clear H1 hn
  have hmk := make_nums n hm
  go_enter Try.func28, Try.ntmps28
  go_wp2
  clear hmk
  go_loopw [4] (fun i wr => ∃ k : Nat, k ≤ n ∧ i = .int .i64 k ∧ Bl w wr ∧ ∃ f, wr.rowIs w.heap.size 2 n f ∧ ∀ j (h : j < k) (h' : j < V.length), f j = .int .i64 V[j]) (fun i _ => n - (intOf i).toNat)
  case atStart => exact ⟨0, by omega, rfl, (by repeat' (first | exact Bl.refl _ | with_reducible assumption | with_reducible refine Bl.drew_ ?_ | with_reducible refine Bl.drewN_ ?_ _ | with_reducible refine Bl.alloc_ ?_ _ | with_reducible refine Bl.trans_ ?_ (by assumption) | with_reducible refine Bl.trans_ ?_ (And.left (by assumption)))), _, mk1_row _ _ _, fun j h => absurd h (by omega)⟩
  case round =>
    obtain ⟨k, hk, rfl, hbl, f, hrow, hf⟩ := hrel
    by_cases hlt : k < n
    · have hkl : k < V.length := by have := HN.out; omega
      obtain ⟨g1, o1, rfl, hg1, hc1⟩ := K1.out.cell (by omega)
      have p1 := hc1 k hkl
      rw [← (bcell hbl).1 _ _ hg1] at p1
      have F := Lib.hid hf
      have R := Lib.hid hrow
      clear hf hrow hc1
      have z1 := R.out.cell (i := k) (by omega)
      have y1 := R.out.frozen k
      have i0 : (0 : Int) ≤ (k : Int) := by omega
      have i1 : (k : Int) < (n : Int) := by omega
      generalize hv : V[k] = x at p1
      go_wp2
      go_roundw
      case rel =>
        refine ⟨k + 1, by omega, by go_num, Bl.set_ hbl (Nat.le_refl _) _, _, R.out.set k _, fun j hj hj' => ?_⟩
        rcases Nat.lt_or_ge j k with h | h
        · rw [if_neg (by omega)]
          exact F.out j h hj'
        · have e : j = k := by omega
          subst e
          rw [if_pos rfl, hv]
      case measure => simp [intOf]; omega
    · go_wp2
      go_ret
      have e : k = n := by omega
      subst e
      refine ⟨rfl, fun h0 => ⟨w.heap.size, 0, rfl, hrow.lt, fun j hj => ?_⟩, hbl⟩
      rw [csI_len] at hj
      have hjk : j < k := by have := HN.out; omega
      rw [csI_at, ← hf j hjk hj, Nat.zero_add]
      exact hrow.cell hjk

set_option maxRecDepth 100000 in
theorem open_nums {H : Type} {enc : TypeId × Value → H} {W : World} {r : Reach} {b0 : Nat} {v : Value} {d : DataW H} {p : List MemPlace} (hv : Value.okWide Try.prog W r b0 24 v)
    (h : DataW.Trod enc Try.prog W 0 (fun _ => true) true 24 v d p) :
    ∃ (A : Option Addr) (n c : Nat) (V : List Int), v = .slice A n c ∧ n = V.length ∧ n ≤ 9223372036854775807 ∧ n ≤ c ∧ IntsAt W W.heap.size A V := by
  obtain ⟨a0, len0, cap0, rfl⟩ := okWide_slice Try.underlying24 hv
  obtain ⟨m0, ht1⟩ := h
  rcases open_ints Try.underlying24 Try.underlying2 (by kernel_rfl) ht1 with ⟨hcs, _⟩ | ⟨a, len, cap, zs, hcs, _, hl, hcap, hzs, hmax, hcell, hwf⟩
  · have hcs' : [Value.slice a0 len0 cap0] = [.slice none 0 0] := hcs
    simp only [List.cons.injEq, and_true, Value.slice.injEq] at hcs'
    obtain ⟨rfl, rfl, rfl⟩ := hcs'
    exact ⟨none, 0, 0, [], rfl, rfl, by omega, Nat.le_refl _, CellsAt.nil_ _ _ _⟩
  · have hcs' : [Value.slice a0 len0 cap0] = [.slice (some a) len cap] := hcs
    simp only [List.cons.injEq, and_true, Value.slice.injEq] at hcs'
    obtain ⟨rfl, rfl, rfl⟩ := hcs'
    have hz : len0 ≤ zs.length := by rw [hzs]; simp; omega
    refine ⟨some a, len0, cap0, zs.take len0, rfl, by rw [List.length_take]; omega, by first | omega | (unfold maxLen at *; omega), by omega, fun h0 => ?_⟩
    rw [csI_len, List.length_take] at h0
    obtain ⟨b, off, spot⟩ := a
    have hc0 := hcell 0 (by omega)
    have hspot : spot = none := by simpa [Addr.add] using World.cell?_spot hc0
    subst hspot
    refine ⟨b, off, rfl, ?_, fun j hj => ?_⟩
    · have := World.block_lt_of_cell? _ _ hc0
      simpa [Addr.add] using this
    · rw [csI_len, List.length_take] at hj
      have hc := hcell j (by omega)
      rw [Go.WideShapes.add_plain] at hc
      rw [hc, csI_at, List.getElem_take, List.getD_eq_getElem?_getD, List.getElem?_eq_getElem (by omega)]
      rfl

end Go.Proofs.Ytlddileiecnkjaa
