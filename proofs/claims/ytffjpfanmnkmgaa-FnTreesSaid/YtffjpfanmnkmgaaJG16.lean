/-
  What is proved here: the twigs of a tree: nodes that lead to the ones ahead of them; slices.Index and slices.Contains over numbers; the path from the root of a tree, by its twigs; PathIn and Under of the code; the laws' small functions that hold lists and graphs against each other, and ask for nodes. No conditions beyond those that each theorem states.
-/
import Derived.Test.YtffjpfanmnkmgaaJG15
import Derived.Test.YtffjpfanmnkmgaaJG14
import Derived.Test.YtffjpfanmnkmgaaJG12
import Derived.LaidEqlPtr
import Derived.Test.YtffjpfanmnkmgaaJG13
import Derived.Test.YtffjpfanmnkmgaaJG05
set_option linter.unusedSimpArgs false
set_option linter.unusedVariables false
namespace Go.Proofs.Ytffjpfanmnkmgaa
open Go.RowKit

theorem infoTwig : (Try.prog.info? 94).map (fun i => (i.zero, i.size, i.bytes)) = some (some (.pointer none), 1, 8) := by kernel_rfl

/-- A pointer to a twig. -/
def ptrB (b : Nat) : Value := .pointer (some ⟨b, 0, none⟩)
def ptrV (bs : List Nat) (u : Int) : Value := if u < 0 then .pointer none else ptrB (bs.getD u.toNat 0)
/-- The twigs lie in the blocks bs, each leading to the one of the node that up tells. -/
structure TwigsAt (w : World) (bs : List Nat) (up : Nat → Int) : Prop where
  at_ : ∀ v (h : v < bs.length), w.rowIs bs[v] 97 2 (fun i => if i = 0 then .int .i64 (v : Int) else ptrV bs (up v))
  apart : ∀ i j (hi : i < bs.length) (hj : j < bs.length), i ≠ j → bs[i] ≠ bs[j]
variable {w w' : World} {bs : List Nat} {up up' : Nat → Int}
theorem TwigsAt.nil_ (w : World) (up : Nat → Int) : TwigsAt w [] up := ⟨fun v h => absurd h (by simp), fun i j h => absurd h (by simp)⟩
theorem TwigsAt.bl (h : TwigsAt w bs up) (hb : Bl w w') : TwigsAt w' bs up := ⟨fun v hv => row_bl (h.at_ v hv) hb, h.apart⟩
theorem TwigsAt.grown_ {row : Option Nat} (h : TwigsAt w bs up) (hg : w.grownBy w' row) (hne : ∀ b ∈ bs, some b ≠ row) : TwigsAt w' bs up :=
  ⟨fun v hv => (h.at_ v hv).of_block (hg.block _ (h.at_ v hv).lt (hne _ (List.getElem_mem hv))), h.apart⟩
theorem TwigsAt.lt (h : TwigsAt w bs up) {b : Nat} (hb : b ∈ bs) : b < w.heap.size := by
  obtain ⟨v, hv, rfl⟩ := List.getElem_of_mem hb
  exact (h.at_ v hv).lt
theorem ptrV_neg {u : Int} (h : u < 0) : ptrV bs u = .pointer none := if_pos h
theorem ptrV_at {v : Nat} (h : v < bs.length) : ptrV bs (v : Int) = .pointer (some ⟨bs[v], 0, none⟩) := by
  unfold ptrV
  rw [if_neg (by omega)]
  simp [ptrB, h]
theorem TwigsAt.snoc {b : Nat} (h : TwigsAt w bs (fun _ => -1)) (hb : w.rowIs b 97 2 (fun i => if i = 0 then .int .i64 (bs.length : Int) else .pointer none)) (hn : b ∉ bs) : TwigsAt w (bs ++ [b]) (fun _ => -1) := by
  have e : ∀ cs, ptrV cs (-1) = .pointer none := fun cs => ptrV_neg (by decide)
  refine ⟨fun v hv => ?_, fun i j hi hj hij => ?_⟩
  · by_cases hl : v < bs.length
    · have h1 := h.at_ v hl
      rw [e] at h1 ⊢
      rw [List.getElem_append_left hl]
      exact h1
    · obtain rfl : v = bs.length := by simp at hv; omega
      rw [e]
      have : (bs ++ [b])[bs.length]'hv = b := by simp
      rw [this]
      exact hb
  · simp at hi hj
    by_cases h1 : i < bs.length
    · rw [List.getElem_append_left h1]
      by_cases h2 : j < bs.length
      · rw [List.getElem_append_left h2]
        exact h.apart i j h1 h2 hij
      · obtain rfl : j = bs.length := by omega
        simp
        exact fun e => hn (by rw [← e]; exact List.getElem_mem h1)
    · obtain rfl : i = bs.length := by omega
      have h2 : j < bs.length := by omega
      rw [List.getElem_append_left h2]
      simp
      exact fun e => hn (by rw [e]; exact List.getElem_mem h2)
theorem TwigsAt.put (h : TwigsAt w bs up) {k : Nat} (hk : k < bs.length) {u : Int} (hu : up' k = u) (ho : ∀ v, v ≠ k → up' v = up v) : TwigsAt (w.setCell ⟨bs[k], 1, none⟩ (ptrV bs u)) bs up' := by
  refine ⟨fun v hv => ?_, h.apart⟩
  by_cases e : v = k
  · subst e
    rw [hu]
    exact ((h.at_ v hv).set 1 (ptrV bs u)).congr fun i hi => by
      have : i = 0 ∨ i = 1 := by omega
      rcases this with rfl | rfl <;> simp
  · rw [ho v e]
    exact (h.at_ v hv).setOther (h.apart v k hv hk e) _
theorem TwigsAt.congr (h : TwigsAt w bs up) (he : ∀ v, v < bs.length → up' v = up v) : TwigsAt w bs up' := ⟨fun v hv => by rw [he v hv]; exact h.at_ v hv, h.apart⟩
theorem TwigsAt.cells (h : TwigsAt w bs up) {v : Nat} (hv : v < bs.length) : w.cell? ⟨bs[v], 0, none⟩ = some (.int .i64 (v : Int)) ∧ w.cell? ⟨bs[v], 1, none⟩ = some (ptrV bs (up v)) ∧ w.frozen? ⟨bs[v], 1, none⟩ = false ∧ bs[v] < w.heap.size :=
  ⟨(h.at_ v hv).cell (i := 0) (by omega), (h.at_ v hv).cell (i := 1) (by omega), (h.at_ v hv).frozen 1, (h.at_ v hv).lt⟩
def upK (U : List Int) (k v : Nat) : Int := if v < k then U.getD v (-1) else -1
theorem upK_zero (U : List Int) : upK U 0 = fun _ => -1 := by funext v; simp [upK]
theorem upK_other {U : List Int} {k v : Nat} (h : v ≠ k) : upK U (k + 1) v = upK U k v := by
  unfold upK
  by_cases h1 : v < k
  · rw [if_pos h1, if_pos (by omega)]
  · rw [if_neg h1, if_neg (by omega)]
theorem upK_here {U : List Int} {k : Nat} (h : k < U.length) : upK U (k + 1) k = U[k] := by
  unfold upK
  rw [if_pos (by omega)]
  simp [h]
theorem upK_all {U : List Int} {v : Nat} (h : v < U.length) : upK U U.length v = dAt U (v : Int) := by
  unfold upK dAt
  rw [if_pos h]
  simp

set_option maxHeartbeats 1000000 in
theorem treeHas_any (R v : Int) (A : Option Addr) (n c : Nat) (w : World) (hm : n ≤ 1048576) :
    Calls Try.prog 68 #[.agg #[.int .i64 R, .slice A n c], .int .i64 v] w fun e w' => e = .returned (.bool (decide (0 ≤ v ∧ v < (n : Int)))) ∧ Bl w w' := by
  by_cases h0 : 0 ≤ v
  · by_cases h1 : v < (n : Int)
    · have hd : decide (0 ≤ v ∧ v < (n : Int)) = true := by simp; omega
      rw [hd]
      clear hd
      go_enter Try.func68, Try.ntmps68
      go_wp2
      go_ret
      exact ⟨rfl, (by repeat' (first | exact Bl.refl _ | with_reducible assumption | with_reducible refine Bl.drew_ ?_ | with_reducible refine Bl.drewN_ ?_ _ | with_reducible refine Bl.alloc_ ?_ _ | with_reducible refine Bl.trans_ ?_ (by assumption) | with_reducible refine Bl.trans_ ?_ (And.left (by assumption))))⟩
    · have hd : decide (0 ≤ v ∧ v < (n : Int)) = false := by simp; omega
      rw [hd]
      clear hd
      go_enter Try.func68, Try.ntmps68
      go_wp2
      go_ret
      exact ⟨rfl, (by repeat' (first | exact Bl.refl _ | with_reducible assumption | with_reducible refine Bl.drew_ ?_ | with_reducible refine Bl.drewN_ ?_ _ | with_reducible refine Bl.alloc_ ?_ _ | with_reducible refine Bl.trans_ ?_ (by assumption) | with_reducible refine Bl.trans_ ?_ (And.left (by assumption))))⟩
  · have hd : decide (0 ≤ v ∧ v < (n : Int)) = false := by simp; omega
    rw [hd]
    clear hd
    go_enter Try.func68, Try.ntmps68
    go_wp2
    go_ret
    exact ⟨rfl, (by repeat' (first | exact Bl.refl _ | with_reducible assumption | with_reducible refine Bl.drew_ ?_ | with_reducible refine Bl.drewN_ ?_ _ | with_reducible refine Bl.alloc_ ?_ _ | with_reducible refine Bl.trans_ ?_ (by assumption) | with_reducible refine Bl.trans_ ?_ (And.left (by assumption))))⟩

/-- What twigsOf leaves. -/
def TwGot (U : List Int) (R : Int) (w : World) (e : Ending) (w' : World) : Prop :=
  ∃ tv, e = .returned tv ∧ Bl w w' ∧ ((rightU U R = false ∧ tv = .slice none 0 0) ∨ (rightU U R = true ∧ ∃ bs : List Nat, bs.length = U.length ∧ Owns 94 1 w' w.heap.size tv U.length (bs.map ptrB) ∧ TwigsAt w' bs (fun v => dAt U (v : Int)) ∧ ∀ b ∈ bs, w.heap.size ≤ b))

set_option maxRecDepth 100000 in
set_option maxHeartbeats 2000000 in
theorem twigsOf_any (R : Int) (A : Option Addr) (n c : Nat) (U : List Int) (hn : n = U.length) (w : World) (hm : n ≤ 1048576) (H1 : IntsAt w w.heap.size A U) :
    Calls Try.prog 67 #[.agg #[.int .i64 R, .slice A n c]] w (TwGot U R w) := by
  obtain ⟨i0, hi, hz0, hz1, hz2⟩ := info_parts infoTwig
  have I0 := Lib.hid hi
  have I1 := Lib.hid hz0
  have I2 := Lib.hid hz1
  have I3 := Lib.hid hz2
  have K1 := Lib.hid H1
  have HN := Lib.hid hn
  obtain ⟨W1, hW1⟩ : ∃ W1, W1 = w.alloc (.cells #[.int .i64 R, .slice A n c] 27) := ⟨_, rfl⟩
  have S1 := Lib.hid (show W1.heap.size = w.heap.size + 1 from by rw [hW1, World.size_alloc])
  have BX := Lib.hid (show ∀ wx, Bl W1 wx → wx.cell? ⟨w.heap.size, 0, none⟩ = some (.int .i64 R) ∧ wx.cell? ⟨w.heap.size, 1, none⟩ = some (.slice A n c) from fun wx hb => by rw [hW1] at hb; exact box2 hb)
  have BW := Lib.hid (show ∀ wx, Bl W1 wx → Bl w wx from fun wx hb => by rw [hW1] at hb; exact (Bl.alloc_ (Bl.refl w) _).trans_ hb)
  have NO := Lib.hid (show rightU U R = false → ∀ wx, Bl W1 wx → TwGot U R w (.returned (.slice none 0 0)) wx from fun h wx hb => ⟨_, rfl, BW.out _ hb, .inl ⟨h, rfl⟩⟩)
  clear H1 hn hi hz0 hz1 hz2
  by_cases h24 : n ≤ 24
  · cases hR : decide (0 ≤ R ∧ R < (n : Int)) with
    | false =>
      have HR := Lib.hid hR
      have NR := Lib.hid (show rightU U R = false from by
        unfold rightU
        rw [decide_eq_false_iff_not] at hR ⊢
        rintro ⟨-, h, -⟩
        have := HN.out
        omega)
      clear hR
      go_enter Try.func67, Try.ntmps67
      go_wp2_with fail
      rw [← hW1]
      obtain ⟨q0, q1⟩ := BX.out _ (Bl.refl _)
      clear hW1
      refine (treeHas_any R R A n c _ hm).mono ?_
      rintro e w1 ⟨rfl, hb1⟩
      rw [HR.out]
      go_wp2
      go_ret
      exact NO.out NR.out _ hb1
    | true =>
      have HR := Lib.hid hR
      clear hR
      go_enter Try.func67, Try.ntmps67
      go_wp2_with fail
      rw [← hW1]
      clear hW1
      refine (treeHas_any R R A n c _ hm).mono ?_
      rintro e w1 ⟨rfl, hb1⟩
      rw [HR.out]
      have B1 := Lib.hid hb1
      obtain ⟨q0, q1⟩ := BX.out _ hb1
      go_wp2_with fail
      clear q0 q1 hb1
      go_loopw [3, 21] (fun tv i wr => ∃ (k : Nat) (bs : List Nat), k ≤ n ∧ i = .int .i64 k ∧ bs.length = k ∧ Owns 94 1 wr W1.heap.size tv k (bs.map ptrB) ∧ TwigsAt wr bs (fun _ => -1) ∧ Bl W1 wr ∧ (∀ b ∈ bs, W1.heap.size ≤ b) ∧ ∀ g, tv.ownBlock = some g → g ∉ bs) (fun _ i _ => n - (intOf i).toNat)
      case atStart => exact ⟨0, [], by omega, rfl, rfl, Owns.nil_ _ _ _ _, TwigsAt.nil_ _ _, B1.out, fun b h => absurd h (by simp), fun g h => absurd h (by simp [Value.ownBlock])⟩
      case round =>
        obtain ⟨k, bs, hk, rfl, hbl, hO, hT, hB, hlo, hne⟩ := hrel
        have OO := Lib.hid hO
        have TT := Lib.hid hT
        have BB := Lib.hid hB
        have LO := Lib.hid hlo
        have NE := Lib.hid hne
        have HB := Lib.hid hbl
        have hsz := hB.size
        obtain ⟨q0, q1⟩ := BX.out _ hB
        clear hO hT hB hlo hne hbl
        by_cases hlt : k < n
        · go_wp2_with (at_builtin; refine wpList_append_any _ rfl (.tmp 24) (.tmp 28) _ rfl W1.heap.size 94 i0 _ 1 8 Try.underlying91 I0.out I1.out I2.out I3.out rfl (by decide) _ k (bs.map ptrB) rfl (World.ownsRow.alloc (World.ownsRow.alloc OO.out _) _) (wr.heap.size + 1 + 1) (some ⟨wr.heap.size + 1, 0, none⟩) 1 1 [.pointer (some ⟨wr.heap.size, 0, none⟩)] rfl ?c0 (by simp [Value.oneCell']) (by unfold maxLen; omega) (by omega) (by simp; omega) ?_)
          case c0 =>
            refine ⟨rfl, fun _ => ⟨_, rfl, by show wr.heap.size + 1 < wr.heap.size + 1 + 1; omega, fun x u hj => ?_⟩⟩
            match x, hj with
            | 0, hj => simp at hj; subst hj; simp [Addr.add, go_sem]
            | (x + 1), hj => simp at hj
          intro v' w7 hown' hgrow hwh
          obtain ⟨Y, hY⟩ : ∃ Y, Y = (wr.alloc (.cells #[.int .i64 (k : Int), .pointer none] 97)).alloc (.cells #[.pointer (some ⟨wr.heap.size, 0, none⟩)] 94) := ⟨_, rfl⟩
          rw [← hY] at hgrow
          have SY : Y.heap.size = wr.heap.size + 1 + 1 := by rw [hY, World.size_alloc, World.size_alloc]
          have BY : Bl wr Y := by rw [hY]; exact (Bl.alloc_ (Bl.refl wr) _).alloc_ _
          have RY : Y.rowIs wr.heap.size 97 2 (fun i => if i = 0 then .int .i64 (k : Int) else .pointer none) := by
            rw [hY]
            refine row_bl (World.rowIs_alloc wr #[.int .i64 (k : Int), .pointer none] _ _ fun i hi => ?_) (Bl.alloc_ (Bl.refl _) _)
            have : i = 0 ∨ i = 1 := by simp at hi; omega
            rcases this with rfl | rfl <;> simp
          have hol := fun g h => Owns.lt OO.out g h
          have HBL := HB.out
          have B7 := Lib.hid (show Bl W1 w7 from (BB.out.trans_ BY).grown_ hgrow (fun g hg => (hol g hg).1))
          have T7 := Lib.hid (show TwigsAt w7 (bs ++ [wr.heap.size]) (fun _ => -1) from
            TwigsAt.snoc ((TT.out.bl BY).grown_ hgrow (fun b hb e => NE.out b e.symm hb)) (by
              rw [HBL]
              exact RY.of_block (hgrow.block _ (by omega) (fun e => by have := (hol _ e.symm).2; omega))) (fun hm' => by
              have := TT.out.lt hm'
              omega))
          have O7 := Lib.hid (show Owns 94 1 w7 W1.heap.size v' (k + 1) ((bs ++ [wr.heap.size]).map ptrB) from by
            rw [List.map_append]
            exact hown')
          have LO7 := Lib.hid (show ∀ b ∈ bs ++ [wr.heap.size], W1.heap.size ≤ b from fun b hb => by
            rcases List.mem_append.1 hb with h | h
            · exact LO.out b h
            · obtain rfl := List.mem_singleton.1 h
              exact hsz)
          have NE7 := Lib.hid (show ∀ g, v'.ownBlock = some g → g ∉ bs ++ [wr.heap.size] from fun g hg hm' => by
            rcases List.mem_append.1 hm' with h | h
            · rcases hwh with e | e
              · exact NE.out g (e.symm.trans hg) h
              · have h1 := e.symm.trans hg
                injection h1 with h1
                have := TT.out.lt h
                omega
            · obtain rfl := List.mem_singleton.1 h
              rcases hwh with e | e
              · have := (hol _ (e.symm.trans hg)).2
                omega
              · have h1 := e.symm.trans hg
                injection h1 with h1
                omega)
          have HB7 := Lib.hid (show (bs ++ [wr.heap.size]).length = k + 1 from by simp [HBL])
          clear hown' hgrow hwh hY SY BY RY hol HBL
          go_wp2
          go_roundw
          case rel => exact ⟨k + 1, _, by omega, by go_num, HB7.out, O7.out, T7.out, B7.out, LO7.out, NE7.out⟩
          case measure => simp [intOf]; omega
        · obtain rfl : k = n := by omega
          obtain ⟨wa, rfl⟩ : ∃ wa : World, wa = wr := ⟨_, rfl⟩
          obtain ⟨At, ct, rfl, hct, -, -, hcells⟩ := Owns.shape OO.out
          have HC := Lib.hid hcells
          clear hcells hlt hk
          go_wp2_with fail
          clear q0 q1
          have TT0 := Lib.hid (show TwigsAt wa bs (upK U 0) from by rw [upK_zero]; exact TT.out)
          have NT := Lib.hid (show ∀ g, blockOf At = some g → g ∉ bs from fun g hg => NE.out g (by rw [ownBlock_slice]; exact hg))
          have LT := Lib.hid (show ∀ g, blockOf At = some g → W1.heap.size ≤ g from fun g hg => (Owns.lt_ OO.out g hg).1)
          clear TT NE
          go_loopw [34] (fun i wx => ∃ j : Nat, j ≤ k ∧ i = .int .i64 j ∧ Turn (fun g => g ∈ bs) wa wx ∧ TwigsAt wx bs (upK U j) ∧ ∀ t (h : t < U.length), t < j → -1 ≤ U[t] ∧ U[t] < (k : Int)) (fun i _ => k - (intOf i).toNat)
          case atStart => exact ⟨0, by omega, rfl, Turn.refl _ _, TT0.out, fun t h h' => absurd h' (by omega)⟩
          case round =>
            obtain ⟨j, hj, rfl, hT, hTw, hU⟩ := hrel
            obtain ⟨wy, rfl⟩ : ∃ wy : World, wy = wr := ⟨_, rfl⟩
            have T := Lib.hid hT
            have TW := Lib.hid hTw
            have HU := Lib.hid hU
            have BY := Lib.hid (show Bl W1 wy from Turn.to_bl BB.out hT (fun i hi => LO.out i hi))
            clear hT hTw hU
            by_cases hlt : j < k
            · have hjl : j < U.length := by have := HN.out; omega
              obtain ⟨g1, o1, rfl, hg1, hc1⟩ := K1.out.cell (by omega)
              have p1 := ((bcell (BW.out _ BY.out)).1 _ _ hg1).trans (hc1 j hjl)
              clear hc1
              generalize hy : U[j] = y at p1
              have HY := Lib.hid hy
              clear hy
              have j0 : (0 : Int) ≤ (j : Int) := by omega
              have j1 : (j : Int) < (k : Int) := by omega
              by_cases hm1 : y = -1
              · have he : (y == -1) = true := by simpa using hm1
                have HM := Lib.hid hm1
                clear hm1
                go_wp2
                go_roundw
                case rel =>
                  refine ⟨j + 1, by omega, by go_num, T.out, TW.out.congr (fun v hv => ?_), fun t h ht => ?_⟩
                  · by_cases e : v = j
                    · subst e
                      rw [upK_here hjl, HY.out, HM.out]
                      unfold upK
                      rw [if_neg (by omega)]
                    · exact upK_other e
                  · rcases Nat.lt_or_ge t j with h' | h'
                    · exact HU.out t h h'
                    · obtain rfl : t = j := by omega
                      rw [HY.out, HM.out]
                      omega
                case measure => simp [intOf]; omega
              · have he : (y == -1) = false := by simpa using hm1
                obtain ⟨q0, q1⟩ := BX.out _ BY.out
                cases hd : decide (0 ≤ y ∧ y < (k : Int)) with
                | false =>
                  have HD := Lib.hid hd
                  have NR := Lib.hid (show rightU U R = false from by
                    unfold rightU
                    rw [decide_eq_false_iff_not] at hd ⊢
                    rintro ⟨-, -, h⟩
                    have h1 := h U[j] (List.getElem_mem hjl)
                    rw [HY.out, ← HN.out] at h1
                    omega)
                  clear hd hm1
                  go_wp2_with fail
                  refine (treeHas_any R y _ k c _ hm).mono ?_
                  rintro e w8 ⟨rfl, hb8⟩
                  rw [HD.out]
                  go_wp2
                  go_ret
                  exact NO.out NR.out _ (BY.out.trans_ hb8)
                | true =>
                  have HD := Lib.hid hd
                  rw [decide_eq_true_eq] at hd
                  obtain ⟨z, rfl⟩ : ∃ z : Nat, y = z := ⟨y.toNat, by omega⟩
                  have hzk : z < k := by omega
                  clear hd hm1
                  go_wp2_with fail
                  refine (treeHas_any R z _ k c _ hm).mono ?_
                  rintro e w8 ⟨rfl, hb8⟩
                  rw [HD.out]
                  have B8 := Lib.hid hb8
                  have HBL := HB.out
                  have hjb : j < bs.length := by omega
                  have hzb : z < bs.length := by omega
                  obtain ⟨gt, rfl, hgt, hglt, -, hcell⟩ := HC.out (by omega)
                  have hgn : gt ∉ bs := NT.out gt rfl
                  have c1 := hcell j (by simpa using hjb)
                  have c2 := hcell z (by simpa using hzb)
                  rw [List.getElem_map] at c1 c2
                  have hglt2 : gt < wy.heap.size := Nat.lt_of_lt_of_le hglt T.out.size
                  have d1 := ((bcell hb8).1 gt j hglt2).trans ((T.out.cell hglt hgn j).trans c1)
                  have d2 := ((bcell hb8).1 gt z hglt2).trans ((T.out.cell hglt hgn z).trans c2)
                  have TW8 := Lib.hid (TW.out.bl hb8)
                  obtain ⟨-, f0, f1, f2⟩ := TW8.out.cells hjb
                  rw [show ptrV bs (upK U j j) = .pointer none from by unfold upK; rw [if_neg (by omega)]; exact ptrV_neg (by decide)] at f0
                  have PUT := Lib.hid (TW8.out.put (up' := upK U (j + 1)) hjb (u := (z : Int)) (by rw [upK_here hjl, HY.out]) (fun v hv => upK_other hv))
                  rw [ptrV_at hzb] at PUT
                  have MJ := Lib.hid (show bs[j] ∈ bs from List.getElem_mem hjb)
                  have T8 := Lib.hid (show Turn (fun g => g ∈ bs) wa w8 from T.out.bl hb8)
                  unfold ptrB at d1 d2
                  generalize bs[j] = bj at d1 f0 f1 f2 PUT MJ
                  generalize bs[z] = bz at d2 PUT
                  have z0 : (0 : Int) ≤ (z : Int) := by omega
                  have z1 : (z : Int) < (k : Int) := by omega
                  have TS := Lib.hid (show Turn (fun g => g ∈ bs) wa (w8.setCell ⟨bj, 1, none⟩ (.pointer (some ⟨bz, 0, none⟩))) from T8.out.set (.inl MJ.out) _)
                  have hg8 : gt < w8.heap.size := Nat.lt_of_lt_of_le hglt2 hb8.size
                  clear hcell c1 c2 q0 q1 p1 hb8 HBL
                  go_wp2
                  go_region
                  all_goals (go_wp2; go_roundw)
                  all_goals (first | (case measure => (simp [intOf]; omega)) | skip)
                  all_goals (refine ⟨j + 1, by omega, by go_num, TS.out.bl (by first | exact Bl.refl _ | exact (Bl.refl _).drew_ | exact (Bl.refl _).drewN_ _), PUT.out.bl (by first | exact Bl.refl _ | exact (Bl.refl _).drew_ | exact (Bl.refl _).drewN_ _), fun t h ht => ?_⟩)
                  all_goals (rcases Nat.lt_or_ge t j with h' | h')
                  all_goals (first
                    | exact HU.out t h h'
                    | (obtain rfl : t = j := by omega
                       rw [HY.out]
                       omega))
            · obtain rfl : j = k := by omega
              have YR := Lib.hid (show rightU U R = true from by
                have h2 := HR.out
                unfold rightU
                rw [decide_eq_true_eq] at h2 ⊢
                refine ⟨by have := HN.out; omega, by have := HN.out; omega, fun x hx => ?_⟩
                obtain ⟨t, ht, rfl⟩ := List.getElem_of_mem hx
                have := HU.out t ht (by have := HN.out; omega)
                have := HN.out
                omega)
              go_wp2
              go_ret
              refine ⟨_, rfl, BW.out _ BY.out, .inr ⟨YR.out, bs, by rw [HB.out, HN.out], ?_, ?_, fun b hb => by have := LO.out b hb; have := S1.out; omega⟩⟩
              · rw [← HN.out]
                exact (Owns.turn OO.out T.out (fun g hg hm' => NT.out g (by rw [ownBlock_slice] at hg; exact hg) hm')).low (by rw [S1.out]; omega)
              · refine TW.out.congr (fun v hv => ?_)
                rw [HN.out, upK_all (by have := HB.out; have := HN.out; omega)]
  · have NR := Lib.hid (show rightU U R = false from by
      unfold rightU
      rw [decide_eq_false_iff_not]
      rintro ⟨h, -⟩
      have := HN.out
      omega)
    go_enter Try.func67, Try.ntmps67
    go_wp2_with fail
    rw [← hW1]
    clear hW1
    go_ret
    exact NO.out NR.out _ (Bl.refl _)

end Go.Proofs.Ytffjpfanmnkmgaa

set_option linter.unusedSimpArgs false
set_option linter.unusedVariables false
namespace Go.Proofs.Ytffjpfanmnkmgaa
open Go.RowKit

set_option maxRecDepth 100000 in
set_option maxHeartbeats 1000000 in
theorem indexC_any (A : Option Addr) (n c : Nat) (V : List Int) (hn : n = V.length) (x : Int) (w : World) (hm : n ≤ 1048576) (H1 : IntsAt w w.heap.size A V) :
    Calls Try.prog 115 #[.slice A n c, .int .i64 x] w fun e w' => ∃ r : Int, e = .returned (.int .i64 r) ∧ (0 ≤ r ↔ x ∈ V) ∧ Bl w w' := by
  have K1 := Lib.hid H1
  have HN := Lib.hid hn
  clear H1 hn
  go_enter Try.func115, Try.ntmps115
  go_wp2_with fail
  go_loopw [8] (fun i wr => ∃ k : Nat, k ≤ n ∧ i = .int .i64 k ∧ Bl w wr ∧ x ∉ V.take k) (fun i _ => n - (intOf i).toNat)
  case atStart => exact ⟨0, by omega, rfl, Bl.refl _, by simp⟩
  case round =>
    obtain ⟨k, hk, rfl, hbl, hno⟩ := hrel
    have NO := Lib.hid hno
    clear hno
    by_cases hlt : k < n
    · have hkl : k < V.length := by have := HN.out; omega
      obtain ⟨g1, o1, rfl, hg1, hc1⟩ := K1.out.cell (by omega)
      have p1 := ((bcell hbl).1 _ _ hg1).trans (hc1 k hkl)
      have MEM := Lib.hid (List.getElem_mem hkl)
      have TK := Lib.hid (List.take_succ_eq_append_getElem hkl)
      have i0 : (0 : Int) ≤ (k : Int) := by omega
      have i1 : (k : Int) < (n : Int) := by omega
      clear hc1
      generalize V[k] = y at *
      by_cases hxy : x = y
      · subst hxy
        go_wp2
        go_ret
        exact ⟨_, rfl, ⟨fun _ => MEM.out, fun _ => by omega⟩, hbl⟩
      · have hb : (x == y) = false := by simpa using hxy
        have NX := Lib.hid (show x ∉ V.take (k + 1) from by
          rw [TK.out, List.mem_append]
          rintro (h | h)
          · exact NO.out h
          · exact hxy (by simpa using h))
        go_wp2
        go_roundw
        case rel => exact ⟨k + 1, by omega, by go_num, hbl, NX.out⟩
        case measure => simp [intOf]; omega
    · have NX := Lib.hid (show x ∉ V from by
        have := NO.out
        rwa [List.take_of_length_le (by have := HN.out; omega)] at this)
      go_wp2
      go_ret
      exact ⟨-1, rfl, ⟨fun h => by omega, fun h => absurd h NX.out⟩, hbl⟩

set_option maxRecDepth 100000 in
set_option maxHeartbeats 1000000 in
theorem containsC_any (A : Option Addr) (n c : Nat) (V : List Int) (hn : n = V.length) (x : Int) (w : World) (hm : n ≤ 1048576) (H1 : IntsAt w w.heap.size A V) :
    Calls Try.prog 71 #[.slice A n c, .int .i64 x] w fun e w' => e = .returned (.bool (decide (x ∈ V))) ∧ Bl w w' := by
  have K1 := Lib.hid H1
  have HN := Lib.hid hn
  have HM := Lib.hid hm
  clear H1 hn hm
  go_enter Try.func71, Try.ntmps71
  go_wp2_with fail
  refine (indexC_any A n c V HN.out x _ HM.out K1.out).mono ?_
  rintro e w1 ⟨r, rfl, hr, hb⟩
  have HB := Lib.hid hb
  have HR := Lib.hid hr
  clear hr hb
  by_cases h0 : 0 ≤ r
  · have hd : decide (0 ≤ r) = true := by simpa using h0
    have HX := Lib.hid (decide_eq_true (HR.out.1 h0))
    go_wp2
    go_ret
    exact ⟨ret_bool HX.out.symm, HB.out⟩
  · have hd : decide (0 ≤ r) = false := by simpa using h0
    have HX := Lib.hid (decide_eq_false (fun h => h0 (HR.out.2 h)))
    go_wp2
    go_ret
    exact ⟨ret_bool HX.out.symm, HB.out⟩

end Go.Proofs.Ytffjpfanmnkmgaa

set_option linter.unusedSimpArgs false
set_option linter.unusedVariables false
namespace Go.Proofs.Ytffjpfanmnkmgaa
open Go.RowKit

theorem ptrU : Try.prog.underlying 94 = some (.pointer 97) := by kernel_rfl
theorem infoTw : (Try.prog.info? 97).map (fun i => i.size) = some 2 := by kernel_rfl
theorem neq_same (a : Addr) (w : World) : (binOp .neq 94 (.pointer (some a)) (.pointer (some a))).run Try.prog w = .ok (.bool false) w := by
  obtain ⟨j, hj, -⟩ := Option.map_eq_some_iff.1 infoTw
  have h : ∀ d : Nat, (Op.equalIn (d + 1) 94 (.pointer (some a)) (.pointer (some a))).run Try.prog w = .ok true w := fun d => by
    simp [Op.equalIn, run_underlying ptrU, sizeOf, typeInfo, hj, run_sameAddr_same]
  simp only [binOp]
  simp [Op.equal, Op.maxDepth, h 9999]
theorem neq_other {a b : Addr} {ta tb : TypeId} {m n : Nat} {f g : Nat → Value} {w : World} (hne : a ≠ b) (ha : w.rowIs a.block ta m f) (hb : w.rowIs b.block tb n g) : (binOp .neq 94 (.pointer (some a)) (.pointer (some b))).run Try.prog w = .ok (.bool true) w := by
  obtain ⟨j, hj, hs⟩ := Option.map_eq_some_iff.1 infoTw
  obtain ⟨ca, ha, -⟩ := ha
  obtain ⟨cb, hb, -⟩ := hb
  have h : ∀ d : Nat, (Op.equalIn (d + 1) 94 (.pointer (some a)) (.pointer (some b))).run Try.prog w = .ok false w := fun d => by
    simp [Op.equalIn, run_underlying ptrU, sizeOf, typeInfo, hj, hs, run_sameAddr_other w hne ha hb]
  simp only [binOp]
  simp [Op.equal, Op.maxDepth, h 9999]
theorem neq_nil (b : Addr) (w : World) : (binOp .neq 94 (.pointer none) (.pointer (some b))).run Try.prog w = .ok (.bool true) w := by
  have h : ∀ d : Nat, (Op.equalIn (d + 1) 94 (.pointer none) (.pointer (some b))).run Try.prog w = .ok false w := fun d => by
    simp [Op.equalIn, run_underlying ptrU]
  simp only [binOp]
  simp [Op.equal, Op.maxDepth, h 9999]

def lenV : Value → Nat
  | .slice _ n _ => n
  | _ => 0

set_option maxRecDepth 100000 in
set_option maxHeartbeats 2000000 in
theorem pathFrom_any (bs : List Nat) (U : List Int) (r v : Nat) (hbl : bs.length = U.length) (hr : rightU U (r : Int) = true) (hv : v < bs.length) (hrb : r < bs.length) (w : World) (hT : TwigsAt w bs (fun v => dAt U (v : Int))) :
    Calls Try.prog 69 #[.pointer (some ⟨bs[v], 0, none⟩), .pointer (some ⟨bs[r], 0, none⟩)] w (NumsMade (pathU U (r : Int) (v : Int)) w) := by
  obtain ⟨i0, hi, hz0, hz1, hz2⟩ := info_parts infoInt
  have I0 := Lib.hid hi
  have I1 := Lib.hid hz0
  have I2 := Lib.hid hz1
  have I3 := Lib.hid hz2
  have TW := Lib.hid hT
  have HB := Lib.hid hbl
  obtain ⟨r1, r2, r3⟩ := rightU_elim hr
  have RR := Lib.hid r3
  have hb24 : bs.length ≤ 24 := by omega
  have V0 := Lib.hid (ptrV_at hv)
  have VR := Lib.hid (ptrV_at hrb)
  obtain ⟨br, hbr⟩ : ∃ br, br = bs[r] := ⟨_, rfl⟩
  have HBR := Lib.hid hbr
  rw [← hbr]
  rw [← hbr] at VR
  rw [← V0.out]
  clear hi hz0 hz1 hz2 hT r1 r2 r3 hr hbl hbr
  go_enter Try.func69, Try.ntmps69
  go_wp2_with fail
  go_loopw [0, 5] (fun xv pv wr => ∃ (y : Int) (P : List Int), -1 ≤ y ∧ y < (bs.length : Int) ∧ xv = ptrV bs y ∧ OwnN wr w.heap.size pv P ∧ Bl w wr ∧ P.length ≤ 24 ∧ Hid (upF U (r : Int) 25 (v : Int) = (upF U (r : Int) (25 - P.length) y).map (· ++ P.reverse))) (fun _ pv _ => 25 - lenV pv)
  case atStart => exact ⟨(v : Int), [], by omega, by omega, rfl, OwnN.nil_ _ _, Bl.refl _, by simp, Lib.hid (by simp)⟩
  case round =>
    obtain ⟨y, P, hy0, hy1, rfl, hO, hB, hp, HE⟩ := hrel
    have OO := Lib.hid hO
    have BB := Lib.hid hB
    obtain ⟨A5, c5, rfl, hc5, -, -, -⟩ := OwnN.shape hO
    obtain ⟨m, hm⟩ : ∃ m, m = P.length := ⟨_, rfl⟩
    rw [← hm] at hp HE hO ⊢
    have HM := Lib.hid hm
    have OW := Lib.hid (show wr.ownsRow w.heap.size 2 1 (.slice A5 m c5) m (csI P) from by have h := OO.out; unfold OwnN Owns at h; rw [← HM.out] at h; exact h)
    have hsz := hB.size
    clear hO hB hm
    by_cases hneg : y < 0
    · have HV := ptrV_neg (bs := bs) hneg
      have HP := Lib.hid (show pathU U (r : Int) (v : Int) = [] from by
        unfold pathU
        rw [HE.out, upF_neg hneg]
        rfl)
      rw [HV]
      have r1 := neq_nil ⟨br, 0, none⟩ wr
      clear HV HE
      go_wp2
      go_ret
      rw [HP.out]
      exact ⟨_, rfl, OwnN.nil_ _ _, BB.out⟩
    · obtain ⟨z, rfl⟩ : ∃ z : Nat, y = z := ⟨y.toNat, by omega⟩
      have hzb : z < bs.length := by omega
      have HV := ptrV_at hzb
      obtain ⟨d0, d1, -, d3⟩ := (TW.out.bl BB.out).cells hzb
      have AP := Lib.hid (fun h => TW.out.apart z r hzb hrb h)
      rw [← HBR.out] at AP
      obtain ⟨bz, hbz⟩ : ∃ bz, bz = bs[z] := ⟨_, rfl⟩
      rw [← hbz] at HV d0 d1 d3 AP
      rw [HV]
      clear HV
      by_cases hzr : z = r
      · subst hzr
        have HBZ := HBR.out
        rw [← hbz] at HBZ
        subst HBZ
        have HP := Lib.hid (show pathU U (z : Int) (v : Int) = (P ++ [(z : Int)]).reverse from by
          unfold pathU
          rw [HE.out, show 25 - m = (24 - m) + 1 from by omega, upF_root (by omega) rfl]
          simp)
        have r1 := neq_same ⟨br, 0, none⟩ wr
        clear HE hbz
        go_wp2_with (at_builtin; refine wpList_append_any _ rfl (.tmp 27) (.tmp 32) _ rfl w.heap.size 2 i0 _ 1 8 Try.underlying22 I0.out I1.out I2.out I3.out rfl (by decide) _ m (csI P) rfl (World.ownsRow.alloc OW.out _) (wr.heap.size + 1) (some ⟨wr.heap.size, 0, none⟩) 1 1 [.int .i64 (z : Int)] rfl ?c0 (by simp [Value.oneCell']) (by unfold maxLen; omega) (by omega) (by simp; omega) ?_)
        case c0 =>
          refine ⟨rfl, fun _ => ⟨_, rfl, by show wr.heap.size < wr.heap.size + 1; omega, fun x u hj => ?_⟩⟩
          match x, hj with
          | 0, hj => simp at hj; subst hj; simp [Addr.add, go_sem]
          | (x + 1), hj => simp at hj
        intro v' w8 hown' hgrow hwh
        have O8 := OwnN.snoc (V := P) (x := (z : Int)) (n := m) HM.out hown'
        have B8 := Lib.hid (show Bl w w8 from (BB.out.alloc_ _).grown_ hgrow (fun g hg => (World.ownsRow.lt OW.out g hg).1))
        have hl8 : (P ++ [(z : Int)]).length = m + 1 := by rw [List.length_append, ← HM.out]; rfl
        obtain ⟨g8, c8, rfl, hg8, -, -⟩ := OwnN.toRow O8 (by omega)
        rw [hl8] at O8 ⊢
        have OO8 := Lib.hid O8
        have HL8 := Lib.hid hl8
        clear hown' hgrow hwh O8 hl8
        go_wp2_with fail
        refine (reverse_any w.heap.size g8 (m + 1) c8 (P ++ [(z : Int)]) HL8.out.symm _ (by omega) OO8.out).mono ?_
        rintro e w9 ⟨rfl, hO9, hT9⟩
        go_wp2
        go_ret
        rw [HP.out]
        exact ⟨_, rfl, hO9, Turn.to_bl B8.out hT9 (fun i e => by subst e; omega)⟩
      · have hne : bz ≠ br := AP.out hzr
        have r1 := neq_other (a := ⟨bz, 0, none⟩) (b := ⟨br, 0, none⟩) (w := wr) (fun e => by injection e with e; exact hne e) (by rw [hbz]; exact (TW.out.bl BB.out).at_ z hzb) (by show wr.rowIs br _ _ _; rw [HBR.out]; exact (TW.out.bl BB.out).at_ r hrb)
        have HBZ := Lib.hid hbz
        clear hbz
        by_cases h24 : m = 24
        · subst h24
          have HP := Lib.hid (show pathU U (r : Int) (v : Int) = [] from by
            unfold pathU
            rw [HE.out, show 25 - 24 = 0 + 1 from rfl, upF_step (by omega) (by omega)]
            rfl)
          clear HE
          go_wp2
          go_ret
          rw [HP.out]
          exact ⟨_, rfl, OwnN.nil_ _ _, BB.out⟩
        · have hn24 : ((m : Int) == 24) = false := by simp; omega
          have hm24 : m < 24 := by omega
          have hzU : z < U.length := by have := HB.out; omega
          obtain ⟨u, hu⟩ : ∃ u, u = dAt U (z : Int) := ⟨_, rfl⟩
          have hub : -1 ≤ u ∧ u < (bs.length : Int) := by
            have h := RR.out U[z] (List.getElem_mem hzU)
            have e : dAt U (z : Int) = U[z] := by simp [dAt, hzU]
            have := HB.out
            rw [hu, e]
            omega
          have EN := Lib.hid (show upF U (r : Int) 25 (v : Int) = (upF U (r : Int) (25 - (m + 1)) u).map (· ++ (P ++ [(z : Int)]).reverse) from by
            rw [HE.out, show 25 - m = (24 - m) + 1 from by omega, upF_step (by omega) (by omega), ← hu, show 25 - (m + 1) = 24 - m from by omega, Option.map_map]
            congr 1
            funext X
            simp)
          have HUU := Lib.hid hu
          rw [← hu] at d1
          clear HE h24 hu
          go_wp2_with (at_builtin; refine wpList_append_any _ rfl (.tmp 16) (.tmp 21) _ rfl w.heap.size 2 i0 _ 1 8 Try.underlying22 I0.out I1.out I2.out I3.out rfl (by decide) _ m (csI P) rfl (World.ownsRow.alloc OW.out _) (wr.heap.size + 1) (some ⟨wr.heap.size, 0, none⟩) 1 1 [.int .i64 (z : Int)] rfl ?c0 (by simp [Value.oneCell']) (by unfold maxLen; omega) (by omega) (by simp; omega) ?_)
          case c0 =>
            refine ⟨rfl, fun _ => ⟨_, rfl, by show wr.heap.size < wr.heap.size + 1; omega, fun x u hj => ?_⟩⟩
            match x, hj with
            | 0, hj => simp at hj; subst hj; simp [Addr.add, go_sem]
            | (x + 1), hj => simp at hj
          intro v' w8 hown' hgrow hwh
          have O8 := Lib.hid (OwnN.snoc (V := P) (x := (z : Int)) (n := m) HM.out hown')
          have B8 := Lib.hid (show Bl w w8 from (BB.out.alloc_ _).grown_ hgrow (fun g hg => (World.ownsRow.lt OW.out g hg).1))
          have hl8 : (P ++ [(z : Int)]).length = m + 1 := by rw [List.length_append, ← HM.out]; rfl
          have HL8 := Lib.hid hl8
          obtain ⟨A8, c8, rfl, -, -, -, -⟩ := OwnN.shape O8.out
          rw [hl8]
          have hd := (TW.out.bl B8.out).cells hzb
          rw [← HBZ.out, ← HUU.out] at hd
          obtain ⟨-, d1', -, d3'⟩ := hd
          clear hown' hgrow hwh r1 d0 d1 hl8
          go_wp2
          go_roundw
          case rel => exact ⟨u, P ++ [(z : Int)], hub.1, hub.2, rfl, by have h := O8.out; rw [HL8.out] at h; exact h, B8.out, by rw [HL8.out]; omega, Lib.hid (by rw [HL8.out]; exact EN.out)⟩
          case measure => simp [lenV]; omega

/-- The nodes of a tree, as the code tells them. -/
theorem treeNo (U : List Int) (r v : Int) (h : rightU U r = false) : pathInU U r v = [] ∧ underU U r v = [] := ⟨pathInU_no (.inl h), underU_no h⟩

set_option maxRecDepth 100000 in
set_option maxHeartbeats 2000000 in
theorem implPathIn_any (R v : Int) (A : Option Addr) (n c : Nat) (U : List Int) (hn : n = U.length) (w : World) (hm : n ≤ 1048576) (H1 : IntsAt w w.heap.size A U) :
    Calls Try.prog 16 #[.agg #[.int .i64 R, .slice A n c], .int .i64 v] w (NumsMade (pathInU U R v) w) := by
  have K1 := Lib.hid H1
  have HN := Lib.hid hn
  have BX := Lib.hid (show ∀ wx, Bl (w.alloc (.cells #[.int .i64 R, .slice A n c] 27)) wx → wx.cell? ⟨w.heap.size, 0, none⟩ = some (.int .i64 R) ∧ wx.cell? ⟨w.heap.size, 1, none⟩ = some (.slice A n c) from fun wx hb => box2 hb)
  have BW := Lib.hid (show ∀ wx, Bl (w.alloc (.cells #[.int .i64 R, .slice A n c] 27)) wx → Bl w wx from fun wx hb => (Bl.alloc_ (Bl.refl w) _).trans_ hb)
  clear H1 hn
  go_enter Try.func16, Try.ntmps16
  go_wp2_with fail
  refine (twigsOf_any R A n c U HN.out _ hm (K1.out.bl (by repeat' (first | exact Bl.refl _ | with_reducible assumption | with_reducible refine Bl.drew_ ?_ | with_reducible refine Bl.drewN_ ?_ _ | with_reducible refine Bl.alloc_ ?_ _ | with_reducible refine Bl.trans_ ?_ (by assumption) | with_reducible refine Bl.trans_ ?_ (And.left (by assumption)))))).mono ?_
  rintro e w1 ⟨tv, rfl, hb1, hcase⟩
  obtain ⟨q0, q1⟩ := BX.out _ hb1
  have B1 := Lib.hid hb1
  clear hb1
  rcases hcase with ⟨hr, rfl⟩ | ⟨hr, bs, hbl, hO, hT, hlo⟩
  · have HP := Lib.hid (treeNo U R v hr).1
    clear hr
    go_wp2
    go_ret
    rw [HP.out]
    exact ⟨_, rfl, OwnN.nil_ _ _, BW.out _ B1.out⟩
  · have HR := Lib.hid hr
    obtain ⟨r1, r2, r3⟩ := rightU_elim hr
    have HB := Lib.hid hbl
    have TW := Lib.hid hT
    obtain ⟨At, ct, rfl, -, -, -, hcell⟩ := Owns.shape hO
    rw [← hbl] at hcell ⊢
    have hbn : bs.length = n := by rw [hbl]; exact HN.out.symm
    rw [hbn]
    have hn1 : 0 < n := by have := HN.out; omega
    have hn24 : n ≤ 24 := by have := HN.out; omega
    obtain ⟨gt, rfl, -, hgt, -, hc⟩ := hcell (by omega)
    have hz : ((n : Int) == 0) = false := by simp; omega
    have HC := Lib.hid hc
    have HBN := Lib.hid hbn
    obtain ⟨x, rfl⟩ : ∃ x : Nat, R = x := ⟨R.toNat, by omega⟩
    have hxn : x < n := by have := HN.out; omega
    clear hr r1 r2 r3 hbl hT hO hcell hc hbn
    cases hd : decide (0 ≤ v ∧ v < (n : Int)) with
    | false =>
      have HD := Lib.hid hd
      have HP := Lib.hid (pathInU_no (U := U) (r := (x : Int)) (v := v) (.inr (by rw [← HN.out]; exact hd)))
      clear hd
      go_wp2_with fail
      refine (treeHas_any x v A n c _ hm).mono ?_
      rintro e w2 ⟨rfl, hb2⟩
      rw [HD.out]
      go_wp2
      go_ret
      rw [HP.out]
      exact ⟨_, rfl, OwnN.nil_ _ _, BW.out _ (B1.out.trans_ hb2)⟩
    | true =>
      have HD := Lib.hid hd
      rw [decide_eq_true_eq] at hd
      obtain ⟨y, rfl⟩ : ∃ y : Nat, v = y := ⟨v.toNat, by omega⟩
      have hyn : y < n := by omega
      have HP := Lib.hid (pathInU_yes HR.out (v := (y : Int)) (by have := HN.out; omega))
      clear hd
      go_wp2_with fail
      refine (treeHas_any x y A n c _ hm).mono ?_
      rintro e w2 ⟨rfl, hb2⟩
      rw [HD.out]
      have B2 := Lib.hid (B1.out.trans_ hb2)
      have hyb : y < bs.length := by have := HBN.out; omega
      have hxb : x < bs.length := by have := HBN.out; omega
      have c1 := ((bcell hb2).1 gt y hgt).trans (HC.out y (by simpa using hyb))
      have c2 := ((bcell hb2).1 gt x hgt).trans (HC.out x (by simpa using hxb))
      rw [List.getElem_map] at c1 c2
      unfold ptrB at c1 c2
      have TW2 := Lib.hid (TW.out.bl hb2)
      have hg2 : gt < w2.heap.size := Nat.lt_of_lt_of_le hgt hb2.size
      clear q0 q1 hb2
      obtain ⟨q0, q1⟩ := BX.out _ B2.out
      have y0 : (0 : Int) ≤ (y : Int) := by omega
      have y1 : (y : Int) < (n : Int) := by omega
      have x0 : (0 : Int) ≤ (x : Int) := by omega
      have x1 : (x : Int) < (n : Int) := by omega
      have PF := Lib.hid (fun wx (hb : Bl w2 wx) => pathFrom_any bs U x y HB.out HR.out hyb hxb wx (TW2.out.bl hb))
      have HSH := Lib.hid (show ∀ wx, Bl w2 wx → Bl w2 wx ∧ wx.cell? ⟨w.heap.size, 0, none⟩ = some (.int .i64 (x : Int)) ∧ wx.cell? ⟨gt, y, none⟩ = some (.pointer (some ⟨bs[y], 0, none⟩)) ∧ wx.cell? ⟨gt, x, none⟩ = some (.pointer (some ⟨bs[x], 0, none⟩)) from fun wx hb => ⟨hb, (BX.out wx (B2.out.trans_ hb)).1, ((bcell hb).1 _ _ hg2).trans c1, ((bcell hb).1 _ _ hg2).trans c2⟩)
      generalize bs[y] = by_ at *
      generalize bs[x] = bx_ at *
      go_wp2_with fail
      refine wp_region_held_drew (S := fun wx => Bl w2 wx ∧ wx.cell? ⟨w.heap.size, 0, none⟩ = some (.int .i64 (x : Int)) ∧ wx.cell? ⟨gt, y, none⟩ = some (.pointer (some ⟨by_, 0, none⟩)) ∧ wx.cell? ⟨gt, x, none⟩ = some (.pointer (some ⟨bx_, 0, none⟩))) (by kernel_rfl) ?_ (fun hHeld => ?_)
      · (exact HSH.out _ (by repeat' (first | exact Bl.refl _ | with_reducible assumption | with_reducible refine Bl.drew_ ?_ | with_reducible refine Bl.drewN_ ?_ _ | with_reducible refine Bl.alloc_ ?_ _ | with_reducible refine Bl.trans_ ?_ (by assumption) | with_reducible refine Bl.trans_ ?_ (And.left (by assumption)))))
      refine wpAnyH_take (i := 0) (v := ?_) rfl (by kernel_rfl) (by kernel_rfl) (by kernel_rfl) (fun _ _ _ h => h) (Or.inl ⟨by kernel_rfl, ?_⟩) (by assumption) ?_
      rotate_left
      · (intro wx hSw; (try dsimp only at hSw); go_simp; try (with_reducible rfl))
      try simp only [Act.put, List.getElem_toArray, List.getElem_cons_succ, List.getElem_cons_zero, List.setIfInBounds_toArray, List.set_cons_zero, List.set_cons_succ]
      refine wpAnyH_take (i := 1) (v := ?_) rfl (by kernel_rfl) (by kernel_rfl) (by kernel_rfl) (fun _ _ _ h => h) (Or.inl ⟨by kernel_rfl, ?_⟩) (by assumption) ?_
      rotate_left
      · (intro wx hSw; (try dsimp only at hSw); go_simp; try (with_reducible rfl))
      try simp only [Act.put, List.getElem_toArray, List.getElem_cons_succ, List.getElem_cons_zero, List.setIfInBounds_toArray, List.set_cons_zero, List.set_cons_succ]
      refine wpAnyH_take (i := 2) (v := ?_) rfl (by kernel_rfl) (by kernel_rfl) (by kernel_rfl) (fun _ _ _ h => h) (Or.inl ⟨by kernel_rfl, ?_⟩) (by assumption) ?_
      rotate_left
      · (intro wx hSw; (try dsimp only at hSw); go_simp; try (with_reducible rfl))
      try simp only [Act.put, List.getElem_toArray, List.getElem_cons_succ, List.getElem_cons_zero, List.setIfInBounds_toArray, List.set_cons_zero, List.set_cons_succ]
      refine wpAnyH_take (i := 3) (v := ?_) rfl (by kernel_rfl) (by kernel_rfl) (by kernel_rfl) (fun _ _ _ h => h) (Or.inl ⟨by kernel_rfl, ?_⟩) (by assumption) ?_
      rotate_left
      · (intro wx hSw; (try dsimp only at hSw); go_simp; try (with_reducible rfl))
      try simp only [Act.put, List.getElem_toArray, List.getElem_cons_succ, List.getElem_cons_zero, List.setIfInBounds_toArray, List.set_cons_zero, List.set_cons_succ]
      refine wpAnyH_take (i := 4) (v := ?_) rfl (by kernel_rfl) (by kernel_rfl) (by kernel_rfl) (fun _ _ _ h => h) (Or.inl ⟨by kernel_rfl, ?_⟩) (by assumption) ?_
      rotate_left
      · (intro wx hSw; (try dsimp only at hSw); go_simp; try (with_reducible rfl))
      try simp only [Act.put, List.getElem_toArray, List.getElem_cons_succ, List.getElem_cons_zero, List.setIfInBounds_toArray, List.set_cons_zero, List.set_cons_succ]
      refine wpAnyH_take (i := 5) (v := ?_) rfl (by kernel_rfl) (by kernel_rfl) (by kernel_rfl) (fun _ _ _ h => h) (Or.inl ⟨by kernel_rfl, ?_⟩) (by assumption) ?_
      rotate_left
      · (intro wx hSw; (try dsimp only at hSw); go_simp; try (with_reducible rfl))
      try simp only [Act.put, List.getElem_toArray, List.getElem_cons_succ, List.getElem_cons_zero, List.setIfInBounds_toArray, List.set_cons_zero, List.set_cons_succ]
      refine wpAnyH_take (i := 6) (v := ?_) rfl (by kernel_rfl) (by kernel_rfl) (by kernel_rfl) (fun _ _ _ h => h) (Or.inl ⟨by kernel_rfl, ?_⟩) (by assumption) ?_
      rotate_left
      · (intro wx hSw; (try dsimp only at hSw); go_simp; try (with_reducible rfl))
      try simp only [Act.put, List.getElem_toArray, List.getElem_cons_succ, List.getElem_cons_zero, List.setIfInBounds_toArray, List.set_cons_zero, List.set_cons_succ]
      refine wpAnyH_take (i := 7) (v := ?_) rfl (by kernel_rfl) (by kernel_rfl) (by kernel_rfl) (fun _ _ _ h => h) (Or.inl ⟨by kernel_rfl, ?_⟩) (by assumption) ?_
      rotate_left
      · (intro wx hSw; (try dsimp only at hSw); go_simp; try (with_reducible rfl))
      try simp only [Act.put, List.getElem_toArray, List.getElem_cons_succ, List.getElem_cons_zero, List.setIfInBounds_toArray, List.set_cons_zero, List.set_cons_succ]
      refine wpAnyH_take (i := 8) (v := ?_) rfl (by kernel_rfl) (by kernel_rfl) (by kernel_rfl) (fun _ _ _ h => h) (Or.inl ⟨by kernel_rfl, ?_⟩) (by assumption) ?_
      rotate_left
      · (intro wx hSw; (try dsimp only at hSw); go_simp; try (with_reducible rfl))
      try simp only [Act.put, List.getElem_toArray, List.getElem_cons_succ, List.getElem_cons_zero, List.setIfInBounds_toArray, List.set_cons_zero, List.set_cons_succ]
      refine wpAnyH_ready (rs := [9]) (by kernel_rfl) (by simp) ?_
      refine AllReadyH.cons rfl (fun K hK => ?_) AllReadyH.nil
      go_simp
      (go_at_call 69; refine (PF.out _ (by repeat' (first | exact Bl.refl _ | with_reducible assumption | with_reducible refine Bl.drew_ ?_ | with_reducible refine Bl.drewN_ ?_ _ | with_reducible refine Bl.alloc_ ?_ _ | with_reducible refine Bl.trans_ ?_ (by assumption) | with_reducible refine Bl.trans_ ?_ (And.left (by assumption))))).mono ?_; rintro e w5 ⟨v5, rfl, hv5, hb5⟩; have V5 := Lib.hid hv5; clear hv5)
      try (go_wp2_with fail)
      refine hK.out _ _ ?_ (fun hHeld => ?_)
      · (exact HSH.out _ (by repeat' (first | exact Bl.refl _ | with_reducible assumption | with_reducible refine Bl.drew_ ?_ | with_reducible refine Bl.drewN_ ?_ _ | with_reducible refine Bl.alloc_ ?_ _ | with_reducible refine Bl.trans_ ?_ (by assumption) | with_reducible refine Bl.trans_ ?_ (And.left (by assumption)))))
      clear hK K
      try simp only [Act.put, List.getElem_toArray, List.getElem_cons_succ, List.getElem_cons_zero, List.setIfInBounds_toArray, List.set_cons_zero, List.set_cons_succ]
      refine wpAnyH_take (i := 10) (v := ?_) rfl (by kernel_rfl) (by kernel_rfl) (by kernel_rfl) (fun _ _ _ h => h) (Or.inl ⟨by kernel_rfl, ?_⟩) (by assumption) ?_
      rotate_left
      · (intro wx hSw; (try dsimp only at hSw); go_simp; try (with_reducible rfl))
      try simp only [Act.put, List.getElem_toArray, List.getElem_cons_succ, List.getElem_cons_zero, List.setIfInBounds_toArray, List.set_cons_zero, List.set_cons_succ]
      refine wpAnyH_done (by kernel_rfl) ?_ _
      go_wp2
      go_ret
      rw [HP.out]
      exact ⟨_, rfl, V5.out.low (by have h1 := (BW.out _ B2.out).size; first | omega | (simp; omega)), (BW.out _ B2.out).trans_ (by repeat' (first | exact Bl.refl _ | with_reducible assumption | with_reducible refine Bl.drew_ ?_ | with_reducible refine Bl.drewN_ ?_ _ | with_reducible refine Bl.alloc_ ?_ _ | with_reducible refine Bl.trans_ ?_ (by assumption) | with_reducible refine Bl.trans_ ?_ (And.left (by assumption))))⟩

set_option maxRecDepth 100000 in
set_option maxHeartbeats 2000000 in
theorem implUnder_any (R v : Int) (A : Option Addr) (n c : Nat) (U : List Int) (hn : n = U.length) (w : World) (hm : n ≤ 1048576) (H1 : IntsAt w w.heap.size A U) :
    Calls Try.prog 23 #[.agg #[.int .i64 R, .slice A n c], .int .i64 v] w (NumsMade (underU U R v) w) := by
  obtain ⟨i0, hi, hz0, hz1, hz2⟩ := info_parts infoInt
  have I0 := Lib.hid hi
  have I1 := Lib.hid hz0
  have I2 := Lib.hid hz1
  have I3 := Lib.hid hz2
  have K1 := Lib.hid H1
  have HN := Lib.hid hn
  have BX := Lib.hid (show ∀ wx, Bl (w.alloc (.cells #[.int .i64 R, .slice A n c] 27)) wx → wx.cell? ⟨w.heap.size, 0, none⟩ = some (.int .i64 R) ∧ wx.cell? ⟨w.heap.size, 1, none⟩ = some (.slice A n c) from fun wx hb => box2 hb)
  have BW := Lib.hid (show ∀ wx, Bl (w.alloc (.cells #[.int .i64 R, .slice A n c] 27)) wx → Bl w wx from fun wx hb => (Bl.alloc_ (Bl.refl w) _).trans_ hb)
  clear H1 hn hi hz0 hz1 hz2
  go_enter Try.func23, Try.ntmps23
  go_wp2_with fail
  refine (twigsOf_any R A n c U HN.out _ hm (K1.out.bl (by repeat' (first | exact Bl.refl _ | with_reducible assumption | with_reducible refine Bl.drew_ ?_ | with_reducible refine Bl.drewN_ ?_ _ | with_reducible refine Bl.alloc_ ?_ _ | with_reducible refine Bl.trans_ ?_ (by assumption) | with_reducible refine Bl.trans_ ?_ (And.left (by assumption)))))).mono ?_
  rintro e w1 ⟨tv, rfl, hb1, hcase⟩
  have B1 := Lib.hid hb1
  clear hb1
  rcases hcase with ⟨hr, rfl⟩ | ⟨hr, bs, hbl, hO, hT, hlo⟩
  · have HP := Lib.hid (treeNo U R v hr).2
    clear hr
    go_wp2
    go_loopw [5, 13] (fun nv i wr => nv = .slice none 0 0 ∧ i = .int .i64 0 ∧ Bl w1 wr) (fun _ _ _ => 0)
    case atStart => exact ⟨rfl, rfl, Bl.refl _⟩
    case round =>
      obtain ⟨rfl, rfl, hbl⟩ := hrel
      go_wp2
      go_ret
      rw [HP.out]
      exact ⟨_, rfl, OwnN.nil_ _ _, BW.out _ (B1.out.trans_ hbl)⟩
  · have HR := Lib.hid hr
    obtain ⟨r1, r2, r3⟩ := rightU_elim hr
    have HB := Lib.hid hbl
    have TW := Lib.hid hT
    obtain ⟨At, ct, rfl, -, -, -, hcell⟩ := Owns.shape hO
    rw [← hbl] at hcell ⊢
    have hbn : bs.length = n := by rw [hbl]; exact HN.out.symm
    rw [hbn]
    have hn1 : 0 < n := by have := HN.out; omega
    have hn24 : n ≤ 24 := by have := HN.out; omega
    obtain ⟨gt, rfl, -, hgt, -, hc⟩ := hcell (by omega)
    have HC := Lib.hid hc
    have HBN := Lib.hid hbn
    have HP := Lib.hid (underU_yes hr (v := v))
    obtain ⟨x, rfl⟩ : ∃ x : Nat, R = x := ⟨R.toNat, by omega⟩
    have hxn : x < n := by have := HN.out; omega
    clear hr r1 r2 r3 hbl hT hO hcell hc hbn
    have hxb : x < bs.length := by have := HBN.out; omega
    have c2 := HC.out x (by simpa using hxb)
    rw [List.getElem_map] at c2
    unfold ptrB at c2
    have C2 := Lib.hid c2
    clear c2
    go_wp2
    go_loopw [5, 13] (fun nv i wr => ∃ k : Nat, k ≤ n ∧ i = .int .i64 k ∧ OwnN wr w1.heap.size nv (underK U (x : Int) v k) ∧ Bl w1 wr) (fun _ i _ => n - (intOf i).toNat)
    case atStart => exact ⟨0, by omega, rfl, by rw [underK_zero]; exact OwnN.nil_ _ _, Bl.refl _⟩
    case round =>
      obtain ⟨k, hk, rfl, hO, hbl⟩ := hrel
      have OO := Lib.hid hO
      have BB := Lib.hid hbl
      have hsz := hbl.size
      have hlen := underK_len (U := U) (r := (x : Int)) (v := v) k
      clear hO hbl
      by_cases hlt : k < n
      · have hkb : k < bs.length := by have := HBN.out; omega
        have c1 := ((bcell BB.out).1 gt k hgt).trans (HC.out k (by simpa using hkb))
        rw [List.getElem_map] at c1
        unfold ptrB at c1
        have c2 := ((bcell BB.out).1 gt x hgt).trans C2.out
        obtain ⟨q0, q1⟩ := BX.out _ (B1.out.trans_ BB.out)
        have PF := Lib.hid (fun wx (hb : Bl w1 wx) => pathFrom_any bs U x k HB.out HR.out hkb hxb wx (TW.out.bl hb))
        have CK := Lib.hid (fun wx (hb : Bl w1 wx) => ((TW.out.bl hb).cells hkb))
        have k0 : (0 : Int) ≤ (k : Int) := by omega
        have k1 : (k : Int) < (n : Int) := by omega
        have x0 : (0 : Int) ≤ (x : Int) := by omega
        have x1 : (x : Int) < (n : Int) := by omega
        have hg2 : gt < wr.heap.size := by omega
        generalize bs[k] = bk at c1 PF CK
        generalize bs[x] = bx at c2 PF
        go_wp2_with fail
        refine (PF.out _ BB.out).mono ?_
        rintro e w2 ⟨v2, rfl, hv2, hb2⟩
        obtain ⟨A2, c2', rfl, -, hi2, -, -⟩ := OwnN.shape hv2
        obtain ⟨P, hP⟩ : ∃ P, P = pathU U (x : Int) (k : Int) := ⟨_, rfl⟩
        have hp25 : P.length ≤ 25 := by rw [hP]; exact pathU_len U x k
        rw [← hP] at hi2 ⊢
        have YES := Lib.hid (fun h => underK_yes (U := U) (r := (x : Int)) (v := v) (k := k) h)
        have NO := Lib.hid (fun h => underK_no (U := U) (r := (x : Int)) (v := v) (k := k) h)
        rw [← hP] at YES NO
        obtain ⟨kp, hkp⟩ : ∃ kp, kp = P.length := ⟨_, rfl⟩
        rw [← hkp] at hp25 ⊢
        have HKP := Lib.hid hkp
        have HI2 := Lib.hid hi2
        have B2 := Lib.hid hb2
        clear hv2 hi2 hP hkp hb2 q0 q1 c1 c2
        go_wp2_with fail
        refine (containsC_any A2 kp c2' P HKP.out v _ (by omega) HI2.out).mono ?_
        rintro e w3 ⟨rfl, hb3⟩
        have B3 := Lib.hid (BB.out.trans_ (B2.out.trans_ hb3))
        have O3 := Lib.hid (OO.out.bl (B2.out.trans_ hb3))
        clear hb3 OO
        cases hd : decide (v ∈ P) with
        | true =>
          obtain ⟨m, hm9⟩ : ∃ m, m = (underK U (x : Int) v k).length := ⟨_, rfl⟩
          have HM := Lib.hid hm9
          have hmk : m ≤ 24 := by omega
          have OW := Lib.hid (show w3.ownsRow w1.heap.size 2 1 u5 m (csI (underK U (x : Int) v k)) from by rw [hm9]; exact O3.out)
          have HY := Lib.hid (YES.out hd)
          have s3 := B3.out.size
          obtain ⟨e0, -, -, e3⟩ := CK.out _ B3.out
          clear hm9 YES NO hd
          go_wp2_with (at_builtin; refine wpList_append_any _ rfl (.tmp 26) (.tmp 31) _ rfl w1.heap.size 2 i0 _ 1 8 Try.underlying22 I0.out I1.out I2.out I3.out rfl (by decide) _ m (csI (underK U (x : Int) v k)) rfl (World.ownsRow.alloc OW.out _) (w3.heap.size + 1) (some ⟨w3.heap.size, 0, none⟩) 1 1 [.int .i64 (k : Int)] rfl ?c0 (by simp [Value.oneCell']) (by unfold maxLen; omega) (by omega) (by simp; omega) ?_)
          case c0 =>
            refine ⟨rfl, fun _ => ⟨_, rfl, by show w3.heap.size < w3.heap.size + 1; omega, fun x u hj => ?_⟩⟩
            match x, hj with
            | 0, hj => simp at hj; subst hj; simp [Addr.add, go_sem]
            | (x + 1), hj => simp at hj
          intro v' w8 hown' hgrow hwh
          have O8 := Lib.hid (OwnN.snoc (V := underK U (x : Int) v k) (x := (k : Int)) (n := m) HM.out hown')
          rw [← HY.out] at O8
          have B8 := Lib.hid (show Bl w1 w8 from (B3.out.alloc_ _).grown_ hgrow (fun g hg => (Owns.lt O3.out g hg).1))
          clear hown' hgrow hwh e0 e3
          go_wp2
          go_roundw
          case rel => exact ⟨k + 1, by omega, by go_num, O8.out, B8.out⟩
          case measure => simp [intOf]; omega
        | false =>
          have HY := Lib.hid (NO.out hd)
          clear YES NO hd
          go_wp2
          go_roundw
          case rel => exact ⟨k + 1, by omega, by go_num, by rw [HY.out]; exact O3.out, B3.out⟩
          case measure => simp [intOf]; omega
      · obtain rfl : k = n := by omega
        go_wp2
        go_ret
        rw [HP.out, ← HN.out]
        exact ⟨_, rfl, OO.out.low (BW.out _ B1.out).size, BW.out _ (B1.out.trans_ BB.out)⟩

end Go.Proofs.Ytffjpfanmnkmgaa

set_option linter.unusedSimpArgs false
set_option linter.unusedVariables false
namespace Go.Proofs.Ytffjpfanmnkmgaa
open Go.RowKit

set_option maxHeartbeats 400000 in
theorem sameInts_yes (A1 A2 : Option Addr) (c1 c2 : Nat) (V : List Int) (n : Nat) (hn : n = V.length) (w : World) (hm : n ≤ 9223372036854775807) (H1 : IntsAt w w.heap.size A1 V) (H2 : IntsAt w w.heap.size A2 V) :
    Calls Try.prog 36 #[.slice A1 n c1, .slice A2 n c2] w fun e w' => e = .returned (.bool true) ∧ Bl w w' := by
  have K1 := Lib.hid H1
  have K2 := Lib.hid H2
  have HN := Lib.hid hn
  have hnn : ((n : Int) != (n : Int)) = false := by simp
  clear H1 H2 hn
  go_enter Try.func36, Try.ntmps36
  go_wp2
  go_loopw [5] (fun i wr => ∃ k : Nat, k ≤ n ∧ i = .int .i64 k ∧ Bl w wr) (fun i _ => n - (intOf i).toNat)
  case atStart => exact ⟨0, by omega, rfl, Bl.refl w⟩
  case round =>
    obtain ⟨k, hk, rfl, hbl⟩ := hrel
    by_cases hlt : k < n
    · have hkl : k < V.length := by have := HN.out; omega
      obtain ⟨g1, o1, rfl, hg1, hc1⟩ := K1.out.cell (by omega)
      obtain ⟨g2, o2, rfl, hg2, hc2⟩ := K2.out.cell (by omega)
      have p1 := hc1 k hkl
      have p2 := hc2 k hkl
      clear hc1 hc2
      rw [← (bcell hbl).1 _ _ hg1] at p1
      rw [← (bcell hbl).1 _ _ hg2] at p2
      generalize V[k] = x at p1 p2
      have hxx : (x != x) = false := by simp
      have i1 : (0 : Int) ≤ (k : Int) := by omega
      have i2 : (k : Int) < (n : Int) := by omega
      go_wp2
      go_quiet (fail)
      go_wp2
      go_roundw
      case rel => exact ⟨k + 1, by omega, by go_num, (by repeat' (first | exact Bl.refl _ | with_reducible assumption | with_reducible refine Bl.drew_ ?_ | with_reducible refine Bl.drewN_ ?_ _ | with_reducible refine Bl.alloc_ ?_ _ | with_reducible refine Bl.trans_ ?_ (by assumption) | with_reducible refine Bl.trans_ ?_ (And.left (by assumption))))⟩
      case measure => simp [intOf]; omega
    · go_wp2
      go_ret
      exact ⟨rfl, hbl⟩




end Go.Proofs.Ytffjpfanmnkmgaa
