/-
  FnExactStackTurn returns true at every argument, and the arguments read afterwards as they read before. Conditions: none.
-/
import Derived.Test.YtalcjgmmlmhngaaRows
import Derived.Test.YtalcjgmmlmhngaaOpen10
import Derived.Test.YtalcjgmmlmhngaaWFnExactStackTurn
namespace Go.Proofs.Ytalcjgmmlmhngaa.fnExactStackTurn
open Go.ChangeShapes Go.WideShapes Go.ChangeAt Go.RowKit P
set_option linter.unusedVariables false
set_option maxRecDepth 100000

set_option maxRecDepth 100000 in
theorem lifted (os : Os) (started : os.Started) (H : Type) (enc : TypeId × Value → H) :
    ReturnsInHanded {} Try.checked os 11 .any (Rows.fnExactStackTurnSpec.pre6 enc Try.prog Try.f11 Rows.fnExactStackTurnRow.domain false) (Rows.fnExactStackTurnSpec.post enc Try.prog Try.f11 false true false false) := by
  refine returnsInHanded_of_change (C := Try.checked) own started (by kernel_rfl) Try.func11
    (ChangeSpec.witness6 (enc := enc) (C := Try.checked) false ⟨#[], #[.agg #[.slice none 0 0, .slice none 0 0], .bool false, .agg #[.int .i64 0, .int .i64 0, .slice none 0 0]], []⟩ 8 (by kernel_rfl) (by kernel_rfl) (by kernel_rfl) (by kernel_rfl)) ?_
  intro W base args ds gs before hval0 hW hcnd _
  have hval : ∀ (j : Nat) t v, Try.f11.params[j]? = some t → args[j]? = some v → Value.okWide Try.prog W .any base t v := hval0
  have hW' := hW
  obtain ⟨p, q, hA0, hV, rfl, hfz, hnd⟩ := hW
  have hA : DataW.TrodAll enc Try.prog W 0 (fun _ => true) true Try.f11.params.toList args.toList ds p := hA0
  rw [Try.params11] at hA hval
  obtain ⟨v0, vs0, d0, ds0, p0, q0, hargs, rfl, rfl, h0, r0⟩ := trodAll_cons hA
  obtain ⟨v1, vs1, d1, ds1, p1, q1, rfl, rfl, rfl, h1, r1⟩ := trodAll_cons r0
  obtain ⟨v2, vs2, d2, ds2, p2, q2, rfl, rfl, rfl, h2, r2⟩ := trodAll_cons r1
  obtain ⟨rfl, rfl, rfl⟩ := trodAll_nil r2
  obtain rfl : args = #[v0, v1, v2] := by cases args; simp_all
  obtain ⟨rfl, rfl⟩ := trodVars_none hV
  obtain ⟨cs0, rfl, _⟩ := okWide_struct Try.underlying51 (hval 0 51 v0 rfl rfl)
  have k0 := h0
  have lt0 : ∀ x ∈ p0, x.block < W.heap.size := by obtain ⟨m, hm⟩ := k0; exact DataW.trod_lt m _ _ _ hm
  obtain ⟨g0, hg0⟩ : ∃ d, (Lay.pair (Lay.slice 39 Lay.edit) (Lay.slice 39 Lay.edit)).rd W cs0.toList d := by
    obtain ⟨fuel, hf⟩ := h0
    exact reads_stack (fun _ => rfl) fuel _ _ hf
  obtain ⟨u0, r0'⟩ := g0
  obtain ⟨_, _, e0, ⟨A0, c0, rfl, hc0, hm0, hU0⟩, ⟨B0, d0', rfl, hd0, hn0, hR0⟩⟩ := hg0
  obtain rfl : cs0 = #[.slice A0 u0.length c0, .slice B0 r0'.length d0'] := by cases cs0; simp at e0; subst e0; rfl
  obtain ⟨a1, rfl, rfl, rfl⟩ := open_bool Try.underlying4 (hval 1 4 v1 rfl rfl) h1
  obtain ⟨cs2, rfl, _⟩ := okWide_struct Try.underlying39 (hval 2 39 v2 rfl rfl)
  have k2 := h2
  have lt2 : ∀ x ∈ p2, x.block < W.heap.size := by obtain ⟨m, hm⟩ := k2; exact DataW.trod_lt m _ _ _ hm
  obtain ⟨g2, hg2⟩ : ∃ d, Lay.edit.rd W cs2.toList d := by
    obtain ⟨fuel, hf⟩ := h2
    exact reads_edit (fun _ => rfl) fuel _ _ hf
  obtain ⟨a2, m2, l2⟩ := g2
  obtain ⟨A2, c2, e2, ha2, hn2, hc2, hm2, hB2⟩ := Lay.edit_rd hg2
  obtain rfl : cs2 = #[.int .i64 a2, .int .i64 m2, .slice A2 l2.length c2] := by cases cs2; simp at e2; subst e2; rfl
  clear hA0 hval0
  refine (walk A0 u0 c0 hc0 hm0 B0 r0' d0' hd0 hn0 a1 a2 m2 ha2 hn2 A2 l2 c2 hc2 hm2 W hU0 hR0  hB2).mono fun e W' ⟨he, bel⟩ => ?_
  subst he
  exact ⟨_, rfl, _, _, _, [], _, [], hW', trodAll_mk1 (shut_bool Try.underlying4 _), (trodAll_cons_mk (Below.trod laidOut (by kernel_rfl) (of_decide_eq_true (by kernel_rfl)) k0 bel lt0) (trodAll_cons_mk (shut_bool Try.underlying4 _) (trodAll_cons_mk (Below.trod laidOut (by kernel_rfl) (of_decide_eq_true (by kernel_rfl)) k2 bel lt2) trodAll_mk0))), rfl, bel.frame _, fun h => by cases h⟩

/-- THE STATEMENT -/
theorem said : Rows.FnExactStackTurnSaid :=
  OpenClaim.holds_of_wide 11 Try.f11 rfl rfl rfl rfl rfl rfl rfl ⟨rfl, rfl, rfl, rfl, rfl⟩ rfl rfl rfl rfl rfl (by kernel_rfl) Try.func11 (by kernel_rfl)
    (of_decide_eq_true (by kernel_rfl)) (by unfold Func.isWrapper; first | (rw [if_pos (by decide +kernel)]; kernel_rfl) | (rw [if_neg (by decide +kernel)]; exact ⟨rfl, rfl⟩))
    (fun os started H enc _ => lifted os started H enc)

end Go.Proofs.Ytalcjgmmlmhngaa.fnExactStackTurn
