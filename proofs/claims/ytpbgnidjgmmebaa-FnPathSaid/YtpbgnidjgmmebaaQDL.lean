/-
  What is proved here: a graph and a path, perhaps with another node in it, that are drawn by a code. No conditions beyond those that each theorem states.
-/
import Derived.Test.YtpbgnidjgmmebaaQDR
import Derived.Test.YtpbgnidjgmmebaaQPSQ
set_option linter.unusedSimpArgs false
set_option linter.unusedVariables false
namespace Go.Proofs.Ytpbgnidjgmmebaa
open Go.RowKit

def DrawnGP (w : World) (e : Ending) (w' : World) : Prop :=
  ∃ N A' l c' L v P, e = .returned (.tuple #[.agg #[.int .i64 N, .slice A' l c'], v]) ∧ Drawn w.heap.size w' N A' l c' L ∧ OwnN w' w.heap.size v P ∧ P.length ≤ 1048576 ∧ Bl w w'
theorem OwnN.put {w : World} {B g n c : Nat} {P : List Int} (h : OwnN w B (.slice (some ⟨g, 0, none⟩) n c) P) (hn : n = P.length) (d : Nat) (x : Int) : OwnN (w.setCell ⟨g, d, none⟩ (.int .i64 x)) B (.slice (some ⟨g, 0, none⟩) n c) (P.set d x) := by
  subst hn
  have h1 := (Owns.stored (show Owns 2 1 w B (.slice (some ⟨g, 0, none⟩) P.length c) P.length (csI P) from h) d (.int .i64 x)).1
  unfold OwnN
  rw [List.length_set]
  have e : csI (P.set d x) = (csI P).set d (.int .i64 x) := by unfold csI; rw [List.map_set]
  rw [e]
  exact h1

set_option maxRecDepth 100000 in
set_option maxHeartbeats 2000000 in
theorem drawLengthOf_any (A : Option Addr) (n c : Nat) (w : World) (hn : n ≤ 1099511627776) (H : BytesAt w A n) :
    Calls Try.prog 27 #[.slice A n c] w (DrawnGP w) := by
  have K := Lib.hid H
  clear H
  go_enter Try.func27, Try.ntmps27
  go_wp2_with fail
  refine (open_any A n c _ (K.out.bl (by repeat' (first | exact Bl.refl _ | with_reducible assumption | with_reducible refine Bl.drew_ ?_ | with_reducible refine Bl.drewN_ ?_ _ | with_reducible refine Bl.alloc_ ?_ _ | with_reducible refine Bl.trans_ ?_ (by assumption) | with_reducible refine Bl.trans_ ?_ (And.left (by assumption)))))).mono ?_
  rintro e w1 ⟨rfl, hr, hb, hlt⟩
  have R1 := Lib.hid (show RdAny w1 (w.heap.size + 1) A n c from by rw [World.size_alloc] at hr; exact hr)
  have B1 := Lib.hid hb
  have s1 := hb.size
  simp only [World.size_alloc] at s1 hlt
  have HK1 := Lib.hid (K.out.bl ((Bl.alloc_ (Bl.refl w) _).trans_ hb))
  clear hr hb
  go_wp2_with fail
  refine (drawDistOf_any A n c _ hn HK1.out).mono ?_
  rintro e w2 ⟨N, A', l, c', L, s, t, rfl, hd, hs, ht, hb2⟩
  have D2 := Lib.hid hd
  have C2 := Lib.hid hb2
  obtain ⟨ha, hlc⟩ := hd.arcs
  have HL := Lib.hid hd.1
  have hl200 := hd.2.1
  have HA := Lib.hid (ha.bl (Bl.alloc_ (Bl.refl w2) (.cells #[.int .i64 N, .slice A' l c'] 26)))
  have s2 := hb2.size
  have R2 := Lib.hid (R1.out.bl hb2)
  clear hd hb2 hs ht ha
  have B2 := Lib.hid (show Bl (w.alloc (.cells #[.int .i64 0, .slice none 0 0] 26)) w2 from B1.out.trans_ C2.out)
  have R3 := Lib.hid (R2.out.bl (Bl.alloc_ (Bl.refl w2) (.cells #[.int .i64 N, .slice A' l c'] 26)))
  have RES := Lib.hid (show Two (w2.alloc (.cells #[.int .i64 N, .slice A' l c'] 26)) w.heap.size (.int .i64 0) (.slice none 0 0) from ((Two.new w _ _).bl B2.out).bl (Bl.alloc_ (Bl.refl _) _))
  have nb : w2.heap.size ≠ w.heap.size := by omega
  have nb' : w.heap.size ≠ w2.heap.size := by omega
  go_wp2_with fail
  refine (specPathOf_any N s t A' l c' L HL.out _ (by omega) HA.out).mono ?_
  rintro e w3 ⟨v3, rfl, hv3, hb3⟩
  have hpl := pathL_len N L s t
  obtain ⟨P, hP⟩ : ∃ P, P = pathL N L s t := ⟨_, rfl⟩
  rw [← hP] at hv3 hpl ⊢
  have O3 := Lib.hid hv3
  obtain ⟨A3, c3, rfl, -, -, -, lo3⟩ := OwnN.shape hv3
  obtain ⟨k, hk⟩ : ∃ k, k = P.length := ⟨_, rfl⟩
  rw [← hk] at hpl O3 ⊢
  have HK := Lib.hid hk
  have LO3 := Lib.hid lo3
  have R4 := Lib.hid (R3.out.bl hb3)
  have G4 := Lib.hid (bl_grown hb3 (some (w.heap.size + 1)))
  have hs3 := hb3.size
  simp only [World.size_alloc] at hs3
  clear hv3 hk hP hb3 lo3
  have HSH := Lib.hid (show ∀ wx, (w2.alloc (.cells #[.int .i64 N, .slice A' l c'] 26)).grownBy wx (some (w.heap.size + 1)) → wx.cell? ⟨w2.heap.size, 0, none⟩ = some (.int .i64 N) ∧ wx.cell? ⟨w2.heap.size, 1, none⟩ = some (.slice A' l c') from fun wx h =>
    ⟨h.cell (by simp [go_sem]) (by simp; omega), h.cell (by simp [go_sem]) (by simp; omega)⟩)
  have DG := Lib.hid (show ∀ wx, (w2.alloc (.cells #[.int .i64 N, .slice A' l c'] 26)).grownBy wx (some (w.heap.size + 1)) → Drawn w1.heap.size wx N A' l c' L from fun wx hG => (D2.out.bl (Bl.alloc_ (Bl.refl w2) (.cells #[.int .i64 N, .slice A' l c'] 26))).far hG (by omega))
  have BG := Lib.hid (show ∀ wx, (w2.alloc (.cells #[.int .i64 N, .slice A' l c'] 26)).grownBy wx (some (w.heap.size + 1)) → Bl w wx from fun wx hG => (((Bl.alloc_ (Bl.refl w) _).trans_ B2.out).alloc_ (.cells #[.int .i64 N, .slice A' l c'] 26)).grown_ hG (fun g e => by injection e with e; omega))
  have OG := Lib.hid (show ∀ wx, w3.grownBy wx (some (w.heap.size + 1)) → OwnN wx (w2.heap.size + 1) (.slice A3 k c3) P from fun wx hG => by
    have h := Owns.grown_ O3.out hG (fun g hg e => by
      injection e with e
      have := (Owns.lt O3.out g hg).1
      simp only [World.size_alloc] at this
      omega)
    have h2 : OwnN wx (w2.alloc (.cells #[.int .i64 N, .slice A' l c'] 26)).heap.size (.slice A3 k c3) P := h
    rw [World.size_alloc] at h2
    exact h2)
  -- what is left, where the reader alone has turned
  have FIN := Lib.hid (show ∀ (w9 : World), w3.grownBy w9 (some (w.heap.size + 1)) → DrawnGP w (.returned (.tuple #[.agg #[.int .i64 N, .slice A' l c'], .slice A3 k c3])) ((w9.setCell ⟨w.heap.size, 0, none⟩ (.int .i64 N)).setCell ⟨w.heap.size, 1, none⟩ (.slice A' l c')) from fun w9 hG => by
    have hGG := grown_trans G4.out hG
    have D3 := DG.out _ hGG
    have O9 := OG.out _ hG
    have hne : ∀ g, (Value.slice A3 k c3).ownBlock = some g → g ≠ w.heap.size := fun g hg e => by have := (Owns.lt O9 g hg).1; omega
    exact ⟨N, A', l, c', L, _, P, rfl, ⟨D3.1, D3.2.1, D3.2.2.1, ((D3.2.2.2.set_ (by show w.heap.size < w1.heap.size; omega) _).set_ (by show w.heap.size < w1.heap.size; omega) _).low (by omega)⟩,
      OwnN.low (Owns.setOther (Owns.setOther O9 (p := ⟨w.heap.size, 0, none⟩) hne _) (p := ⟨w.heap.size, 1, none⟩) hne _) (by omega), by rw [← HK.out]; exact hpl, ((BG.out _ hGG).set_ (Nat.le_refl _) _).set_ (Nat.le_refl _) _⟩)
  go_wp2_with fail
  refine (once_any 3 (w.heap.size + 1) A n c _ hn (by omega) (by omega) R4.out).mono ?_
  rintro e w4 ⟨b, rfl, hr, hg⟩
  have R5 := Lib.hid hr
  have G5 := Lib.hid hg
  obtain ⟨y0, y1⟩ := HSH.out _ (grown_trans G4.out hg)
  have T5 := Lib.hid ((RES.out).grown_ (grown_trans G4.out hg) (by simp))
  clear hr hg
  cases b with
  | false =>
    obtain ⟨r0, r1, fr0, fr1⟩ := Two.facts T5.out
    go_wp2
    refine bodyPost_ret (v := .tuple #[.agg #[.int .i64 N, .slice A' l c'], .slice A3 k c3]) (by simp [results, Try.results27, go_sem, r0, r1, fr0, fr1]) rfl ?_
    exact FIN.out _ G5.out
  | true =>
    by_cases hk0 : 0 < k
    · have bk : decide ((0 : Int) < (k : Int)) = true := by simpa using hk0
      go_wp2_with fail
      refine (below_any k (w.heap.size + 1) A n c _ hn (by omega) R5.out).mono ?_
      rintro e w5 ⟨d, ⟨hd0, hd1⟩, rfl, hr, hg⟩
      have R6 := Lib.hid hr
      have G6 := Lib.hid (grown_trans G5.out hg)
      have hdk : d < (k : Int) := by omega
      obtain ⟨dn, rfl⟩ : ∃ dn : Nat, d = dn := ⟨d.toNat, by omega⟩
      clear hr hg hd1 y0 y1
      go_wp2_with fail
      refine (off_any 0 9 (w.heap.size + 1) A n c _ hn (by omega) (by omega) (by omega) (by omega) R6.out).mono ?_
      rintro e w6 ⟨x, hx, rfl, hr, hg⟩
      have G7 := Lib.hid (grown_trans G6.out hg)
      obtain ⟨y0, y1⟩ := HSH.out _ (grown_trans G4.out G7.out)
      have O7 := Lib.hid (OG.out _ G7.out)
      obtain ⟨AA, cc, e7, -, -, -, hh7⟩ := Owns.shape (show Owns 2 1 w6 (w2.heap.size + 1) (.slice A3 k c3) P.length (csI P) from O7.out)
      injection e7 with e71 e72 e73
      subst e71
      subst e73
      clear e72
      obtain ⟨g3, rfl, hBg, hgl, hfz, hcell⟩ := hh7 (by rw [← HK.out]; exact hk0)
      have hq := hcell dn (by rw [csI_len, ← HK.out]; omega)
      have hf := hfz dn
      have T7 := Lib.hid ((RES.out).grown_ (grown_trans G4.out G7.out) (by simp))
      have T8 := Lib.hid (show Two (w6.setCell ⟨g3, dn, none⟩ (.int .i64 x)) w.heap.size (.int .i64 0) (.slice none 0 0) from World.rowIs.setOther T7.out (by show w.heap.size ≠ g3; omega) _)
      obtain ⟨r0, r1, fr0, fr1⟩ := Two.facts T8.out
      obtain ⟨r0', r1', fr0', fr1'⟩ := Two.facts T7.out
      have n1 : g3 ≠ w2.heap.size := by omega
      have n2 : w2.heap.size ≠ g3 := by omega
      have n3 : g3 ≠ w.heap.size := by omega
      have n4 : w.heap.size ≠ g3 := by omega
      have d0 : (0 : Int) ≤ (dn : Int) := by omega
      have d1 : (dn : Int) < (k : Int) := hdk
      generalize (csI P)[dn]'(by rw [csI_len, ← HK.out]; omega) = old at hq
      clear hcell hfz hr hg
      go_wp2
      refine bodyPost_ret (v := .tuple #[.agg #[.int .i64 N, .slice A' l c'], .slice (some ⟨g3, 0, none⟩) k c3]) (by simp [results, Try.results27, go_sem, r0, r1, fr0, fr1, r0', r1', fr0', fr1', n3, n4]) rfl ?_
      have hGG := grown_trans G4.out G7.out
      have D3 := DG.out _ hGG
      have OA : OwnA (w6.setCell ⟨g3, dn, none⟩ (.int .i64 x)) w1.heap.size (.slice A' l c') L := Owns.setOther D3.2.2.2 (fun g hg e => by
        have h1 := (Owns.lt D2.out.2.2.2 g hg).2
        have h2 : g = g3 := e
        omega) _
      have OP := OwnN.put O7.out HK.out dn x
      have hne : ∀ g, (Value.slice (some ⟨g3, 0, none⟩) k c3).ownBlock = some g → g ≠ w.heap.size := fun g hg e => by
        have h2 : g3 = g := by simpa [Value.ownBlock] using hg
        omega
      refine ⟨N, A', l, c', L, .slice (some ⟨g3, 0, none⟩) k c3, P.set dn x, rfl, ⟨D3.1, D3.2.1, D3.2.2.1, ((OA.set_ (by show w.heap.size < w1.heap.size; omega) _).set_ (by show w.heap.size < w1.heap.size; omega) _).low (by omega)⟩, ?_, ?_, ?_⟩
      · exact OwnN.low (Owns.setOther (Owns.setOther OP (p := ⟨w.heap.size, 0, none⟩) hne _) (p := ⟨w.heap.size, 1, none⟩) hne _) (by omega)
      · rw [List.length_set, ← HK.out]; exact hpl
      · exact ((((BG.out _ hGG).set_ (p := ⟨g3, dn, none⟩) (by show w.heap.size ≤ g3; omega) _).set_ (Nat.le_refl _) _).set_ (Nat.le_refl _) _)
    · have bk : decide ((0 : Int) < (k : Int)) = false := by simpa using hk0
      obtain ⟨r0, r1, fr0, fr1⟩ := Two.facts T5.out
      go_wp2
      refine bodyPost_ret (v := .tuple #[.agg #[.int .i64 N, .slice A' l c'], .slice A3 k c3]) (by simp [results, Try.results27, go_sem, r0, r1, fr0, fr1]) rfl ?_
      exact FIN.out _ G5.out

end Go.Proofs.Ytpbgnidjgmmebaa
