/-
  FnExactStackPush returns true at every argument, and the arguments read afterwards as they read before. Conditions: none.
-/
import Derived.Test.YtalcjgmmlmhngaaRows
import Derived.Test.YtalcjgmmlmhngaaOpen10
import Derived.Test.YtalcjgmmlmhngaaWFnExactStackPush
namespace Go.Proofs.Ytalcjgmmlmhngaa.fnExactStackPush
open Go.ChangeShapes Go.WideShapes Go.ChangeAt Go.RowKit P
set_option linter.unusedVariables false
set_option maxRecDepth 100000

set_option maxRecDepth 100000 in
theorem lifted (os : Os) (started : os.Started) (H : Type) (enc : TypeId × Value → H) :
    ReturnsInHanded {} Try.checked os 10 .any (Rows.fnExactStackPushSpec.pre6 enc Try.prog Try.f10 Rows.fnExactStackPushRow.domain false) (Rows.fnExactStackPushSpec.post enc Try.prog Try.f10 false true false false) := by
  refine returnsInHanded_of_change (C := Try.checked) own started (by kernel_rfl) Try.func10
    (ChangeSpec.witness6 (enc := enc) (C := Try.checked) false ⟨#[], #[.agg #[.slice none 0 0, .slice none 0 0], .agg #[.int .i64 0, .int .i64 0, .slice none 0 0]], []⟩ 8 (by kernel_rfl) (by kernel_rfl) (by kernel_rfl) (by kernel_rfl)) ?_
  intro W base args ds gs before hval0 hW hcnd _
  have hval : ∀ (j : Nat) t v, Try.f10.params[j]? = some t → args[j]? = some v → Value.okWide Try.prog W .any base t v := hval0
  have hW' := hW
  obtain ⟨p, q, hA0, hV, rfl, hfz, hnd⟩ := hW
  have hA : DataW.TrodAll enc Try.prog W 0 (fun _ => true) true Try.f10.params.toList args.toList ds p := hA0
  rw [Try.params10] at hA hval
  obtain ⟨v0, vs0, d0, ds0, p0, q0, hargs, rfl, rfl, h0, r0⟩ := trodAll_cons hA
  obtain ⟨v1, vs1, d1, ds1, p1, q1, rfl, rfl, rfl, h1, r1⟩ := trodAll_cons r0
  obtain ⟨rfl, rfl, rfl⟩ := trodAll_nil r1
  obtain rfl : args = #[v0, v1] := by cases args; simp_all
  obtain ⟨rfl, rfl⟩ := trodVars_none hV
  obtain ⟨cs0, rfl, _⟩ := okWide_struct Try.underlying51 (hval 0 51 v0 rfl rfl)
  have k0 := h0
  have lt0 : ∀ x ∈ p0, x.block < W.heap.size := by obtain ⟨m, hm⟩ := k0; exact DataW.trod_lt m _ _ _ hm
  obtain ⟨g0, hg0⟩ : ∃ d, (Lay.pair (Lay.slice 39 Lay.edit) (Lay.slice 39 Lay.edit)).rd W cs0.toList d := by
    obtain ⟨fuel, hf⟩ := h0
    exact reads_stack (fun _ => rfl) fuel _ _ hf
  obtain ⟨u0, r0'⟩ := g0
  obtain ⟨_, _, e0, ⟨A0, c0, rfl, hc0, hm0, hU0⟩, ⟨B0, d0', rfl, hd0, hn0, hR0⟩⟩ := hg0
  obtain rfl : cs0 = #[.slice A0 u0.length c0, .slice B0 r0'.length d0'] := by cases cs0; simp at e0; subst e0; rfl
  obtain ⟨cs1, rfl, _⟩ := okWide_struct Try.underlying39 (hval 1 39 v1 rfl rfl)
  have k1 := h1
  have lt1 : ∀ x ∈ p1, x.block < W.heap.size := by obtain ⟨m, hm⟩ := k1; exact DataW.trod_lt m _ _ _ hm
  obtain ⟨g1, hg1⟩ : ∃ d, Lay.edit.rd W cs1.toList d := by
    obtain ⟨fuel, hf⟩ := h1
    exact reads_edit (fun _ => rfl) fuel _ _ hf
  obtain ⟨a1, m1, l1⟩ := g1
  obtain ⟨A1, c1, e1, ha1, hn1, hc1, hm1, hB1⟩ := Lay.edit_rd hg1
  obtain rfl : cs1 = #[.int .i64 a1, .int .i64 m1, .slice A1 l1.length c1] := by cases cs1; simp at e1; subst e1; rfl
  clear hA0 hval0
  refine (walk A0 u0 c0 hc0 hm0 B0 r0' d0' hd0 hn0 a1 m1 ha1 hn1 A1 l1 c1 hc1 hm1 W hU0 hR0 hB1).mono fun e W' ⟨he, bel⟩ => ?_
  subst he
  exact ⟨_, rfl, _, _, _, [], _, [], hW', trodAll_mk1 (shut_bool Try.underlying4 _), (trodAll_cons_mk (Below.trod laidOut (by kernel_rfl) (of_decide_eq_true (by kernel_rfl)) k0 bel lt0) (trodAll_cons_mk (Below.trod laidOut (by kernel_rfl) (of_decide_eq_true (by kernel_rfl)) k1 bel lt1) trodAll_mk0)), rfl, bel.frame _, fun h => by cases h⟩

/-- THE STATEMENT -/
theorem said : Rows.FnExactStackPushSaid :=
  OpenClaim.holds_of_wide 10 Try.f10 rfl rfl rfl rfl rfl rfl rfl ⟨rfl, rfl, rfl, rfl, rfl⟩ rfl rfl rfl rfl rfl (by kernel_rfl) Try.func10 (by kernel_rfl)
    (of_decide_eq_true (by kernel_rfl)) (by unfold Func.isWrapper; first | (rw [if_pos (by decide +kernel)]; kernel_rfl) | (rw [if_neg (by decide +kernel)]; exact ⟨rfl, rfl⟩))
    (fun os started H enc _ => lifted os started H enc)

end Go.Proofs.Ytalcjgmmlmhngaa.fnExactStackPush
