/-
  What is proved here: at every code the law FnPush returns true, and the argument reads as it did. No conditions.
-/
import Derived.Test.YtnpngkppbmndiabR5
set_option linter.unusedSimpArgs false
set_option linter.unusedVariables false
namespace Go.Proofs.Ytnpngkppbmndiab
open Go.ChangeShapes Go.WideShapes Go.ChangeAt Go.RowKit

theorem wf_u8_bounds {b : Int} (h : (Lit.int .u8 b).wf = true) : 0 ≤ b ∧ b ≤ 255 := by
  have := bounds_u8 h
  omega
theorem open_bytes {H : Type} {enc : TypeId × Value → H} {W : World} {r : Reach} {b0 : Nat} {v : Value} {d : DataW H} {p : List MemPlace} (hv : Value.okWide Try.prog W r b0 43 v)
    (h : DataW.Trod enc Try.prog W 0 (fun _ => true) true 43 v d p) :
    ∃ (A : Option Addr) (n c : Nat), v = .slice A n c ∧ BytesAt W A n ∧ (0 < n → ∀ g, blockOf A = some g → g < W.heap.size) := by
  obtain ⟨a0, len0, cap0, rfl⟩ := okWide_slice Try.underlying43 hv
  obtain ⟨m0, ht1⟩ := h
  have key : BytesAt W a0 len0 := by
    rcases open_ints Try.underlying43 Try.underlying5 (by kernel_rfl) ht1 with ⟨hcs, _⟩ | ⟨a, len, cap, zs, hcs, _, hl, hcap, hzs, _, hcell, hwf⟩
    · have hcs' : [Value.slice a0 len0 cap0] = [.slice none 0 0] := hcs
      simp only [List.cons.injEq, and_true, Value.slice.injEq] at hcs'
      obtain ⟨rfl, rfl, rfl⟩ := hcs'
      exact fun h0 => absurd h0 (by omega)
    · have hcs' : [Value.slice a0 len0 cap0] = [.slice (some a) len cap] := hcs
      simp only [List.cons.injEq, and_true, Value.slice.injEq] at hcs'
      obtain ⟨rfl, rfl, rfl⟩ := hcs'
      intro h0
      have hz : len0 ≤ zs.length := by rw [hzs]; simp; omega
      obtain ⟨b, off, spot⟩ := a
      have hc0 := hcell 0 (by omega)
      have hspot : spot = none := by simpa [Addr.add] using World.cell?_spot hc0
      subst hspot
      refine ⟨b, off, rfl, ?_, fun j hj => ?_⟩
      · have := World.block_lt_of_cell? _ _ hc0
        simpa [Addr.add] using this
      · have hc := hcell j (by omega)
        rw [Go.WideShapes.add_plain] at hc
        refine ⟨_, hc, wf_u8_bounds (hwf _ ?_)⟩
        rw [List.getD_eq_getElem?_getD, List.getElem?_eq_getElem (by omega)]
        exact List.getElem_mem _
  exact ⟨a0, len0, cap0, rfl, key, fun h0 g hg => by
    obtain ⟨g', off, rfl, hlt, _⟩ := key h0
    simp [blockOf] at hg
    omega⟩

set_option maxRecDepth 100000 in
theorem fnPush_lifted (os : Os) (started : os.Started) (H : Type) (enc : TypeId × Value → H) :
    ReturnsInHanded {} Try.checked os 8 .any (Rows.fnPushSpec.pre6 enc Try.prog Try.f8 Rows.fnPushRow.domain false) (Rows.fnPushSpec.post enc Try.prog Try.f8 false true false false) := by
  refine returnsInHanded_of_change (C := Try.checked) Try.own_ started (by kernel_rfl) Try.func8
    (ChangeSpec.witness6 (enc := enc) (C := Try.checked) false ⟨#[], #[.slice none 0 0], []⟩ 8 (by kernel_rfl) (by kernel_rfl) (by kernel_rfl) (by kernel_rfl)) ?_
  intro W base args ds gs before hval0 hW hcnd _
  have hval : ∀ (j : Nat) t v, Try.f8.params[j]? = some t → args[j]? = some v → Value.okWide Try.prog W .any base t v := hval0
  have hW' := hW
  obtain ⟨p, q, hA0, hV, rfl, hfz, hnd⟩ := hW
  have hA : DataW.TrodAll enc Try.prog W 0 (fun _ => true) true Try.f8.params.toList args.toList ds p := hA0
  rw [Try.params8] at hA hval
  obtain ⟨v0, vs0, d0, ds0, p0, q0, hargs, rfl, rfl, h0, r0⟩ := trodAll_cons hA
  obtain ⟨rfl, rfl, rfl⟩ := trodAll_nil r0
  obtain rfl : args = #[v0] := by cases args; simp_all
  obtain ⟨rfl, rfl⟩ := trodVars_none hV
  have k0 := h0
  have lt0 : ∀ x ∈ p0, x.block < W.heap.size := by obtain ⟨m, hm⟩ := k0; exact DataW.trod_lt m _ _ _ hm
  obtain ⟨A, n, c, rfl, hb, hg⟩ := open_bytes (hval 0 43 v0 rfl rfl) h0
  clear hA0 hval0
  refine (lawPush_any A n c W hb hg).mono fun e W' ⟨he, bel0⟩ => ?_
  have bel : Below W.heap.size W W' := bel0
  subst he
  exact ⟨_, rfl, _, _, _, [], _, [], hW', trodAll_mk1 (shut_bool Try.underlying4 _), (trodAll_cons_mk (Below.trod Try.laidOut_ (by kernel_rfl) (of_decide_eq_true (by kernel_rfl)) k0 bel lt0) trodAll_mk0), rfl, bel.frame _, fun h => by cases h⟩

theorem fnPush_holds : Rows.FnPushSaid :=
  OpenClaim.holds_of_wide 8 Try.f8 rfl rfl rfl rfl rfl rfl rfl ⟨rfl, rfl, rfl, rfl, rfl⟩ rfl rfl rfl rfl rfl (by kernel_rfl) Try.func8 (by kernel_rfl)
    (of_decide_eq_true (by kernel_rfl)) (by unfold Func.isWrapper; first | (rw [if_pos (by decide +kernel)]; kernel_rfl) | (rw [if_neg (by decide +kernel)]; exact ⟨rfl, rfl⟩))
    (fun os started H enc _ => fnPush_lifted os started H enc)

end Go.Proofs.Ytnpngkppbmndiab
