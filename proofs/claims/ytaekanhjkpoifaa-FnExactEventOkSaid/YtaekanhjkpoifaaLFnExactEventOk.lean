/-
  FnExactEventOk returns true at every argument, and the arguments read afterwards as they read before. Conditions: none.
-/
import Derived.Test.YtaekanhjkpoifaaRows
import Derived.Test.YtaekanhjkpoifaaOpen14
import Derived.Test.YtaekanhjkpoifaaWFnExactEventOk
namespace Go.Proofs.Ytaekanhjkpoifaa.fnExactEventOk
open Go.ChangeShapes Go.WideShapes Go.ChangeAt Go.RowKit P
set_option linter.unusedVariables false
set_option maxRecDepth 100000

set_option maxRecDepth 100000 in
theorem lifted (os : Os) (started : os.Started) (H : Type) (enc : TypeId × Value → H) :
    ReturnsInHanded {} Try.checked os 3 .any (Rows.fnExactEventOkSpec.pre6 enc Try.prog Try.f3 Rows.fnExactEventOkRow.domain false) (Rows.fnExactEventOkSpec.post enc Try.prog Try.f3 false true false false) := by
  refine returnsInHanded_of_change (C := Try.checked) own started (by kernel_rfl) Try.func3
    (ChangeSpec.witness6 (enc := enc) (C := Try.checked) false ⟨#[], #[.agg #[.int .i64 0, .int .i64 0, .int .i64 0, .slice none 0 0]], []⟩ 8 (by kernel_rfl) (by kernel_rfl) (by kernel_rfl) (by kernel_rfl)) ?_
  intro W base args ds gs before hval0 hW hcnd _
  have hval : ∀ (j : Nat) t v, Try.f3.params[j]? = some t → args[j]? = some v → Value.okWide Try.prog W .any base t v := hval0
  have hW' := hW
  obtain ⟨p, q, hA0, hV, rfl, hfz, hnd⟩ := hW
  have hA : DataW.TrodAll enc Try.prog W 0 (fun _ => true) true Try.f3.params.toList args.toList ds p := hA0
  rw [Try.params3] at hA hval
  obtain ⟨v0, vs0, d0, ds0, p0, q0, hargs, rfl, rfl, h0, r0⟩ := trodAll_cons hA
  obtain ⟨rfl, rfl, rfl⟩ := trodAll_nil r0
  obtain rfl : args = #[v0] := by cases args; simp_all
  obtain ⟨rfl, rfl⟩ := trodVars_none hV
  obtain ⟨cs0, rfl, _⟩ := okWide_struct Try.underlying24 (hval 0 24 v0 rfl rfl)
  have k0 := h0
  have lt0 : ∀ x ∈ p0, x.block < W.heap.size := by obtain ⟨m, hm⟩ := k0; exact DataW.trod_lt m _ _ _ hm
  obtain ⟨g0, hg0⟩ : ∃ d, Lay.reply.rd W cs0.toList d := by
    obtain ⟨fuel, hf⟩ := h0
    exact reads_event (fun _ => rfl) fuel _ _ hf
  obtain ⟨x0', p0', q0', l0⟩ := g0
  obtain ⟨A0, c0, e0, hc0, hm0, hB0⟩ := Lay.reply_rd hg0
  obtain rfl : cs0 = #[.int .i64 x0', .int .i64 p0', .int .i64 q0', .slice A0 l0.length c0] := by cases cs0; simp at e0; subst e0; rfl
  clear hA0 hval0
  refine (walk x0' p0' q0' A0 l0 c0 hc0 hm0 W hB0).mono fun e W' ⟨he, bel⟩ => ?_
  subst he
  exact ⟨_, rfl, _, _, _, [], _, [], hW', trodAll_mk1 (shut_bool Try.underlying4 _), (trodAll_cons_mk (Below.trod laidOut (by kernel_rfl) (of_decide_eq_true (by kernel_rfl)) k0 bel lt0) trodAll_mk0), rfl, bel.frame _, fun h => by cases h⟩

set_option maxRecDepth 100000 in
set_option maxHeartbeats 4000000 in
theorem closed : joinedFacts Try.pinned.checked.prog 3 Try.f3 Rows.fnExactEventOkSpec Rows.fnExactEventOkRow = true := by
  have hl : Try.pinned.checked.prog.initOrder.toList = _ := (fun {s : String} {l : List Char} (h : s = String.ofList l) => (by rw [h, String.toList_ofList] : s.toList = l)) rfl
  unfold joinedFacts
  repeat' (with_reducible refine Bool.and_eq_true_iff.2 ⟨?_, ?_⟩)
  all_goals first
    | (unfold Program.mayEnter; rw [hl]; (as_aux_lemma => kernel_rfl))
    | (unfold Program.liftsFinal Program.headLifts; rw [hl]; (as_aux_lemma => kernel_rfl))
    | (unfold Program.make Program.headLifts; rw [hl]; (as_aux_lemma => kernel_rfl))
    | (as_aux_lemma => kernel_rfl)

/-- THE STATEMENT -/
theorem said : Rows.FnExactEventOkSaid :=
  OpenClaim.holds_of_wide 3 Try.f3 rfl rfl rfl rfl rfl rfl rfl ⟨rfl, rfl, rfl, rfl, rfl⟩ rfl rfl rfl rfl rfl (by kernel_rfl) Try.func3
    closed
    (of_decide_eq_true (by kernel_rfl)) (by unfold Func.isWrapper; first | (rw [if_pos (by decide +kernel)]; kernel_rfl) | (rw [if_neg (by decide +kernel)]; exact ⟨rfl, rfl⟩))
    (fun os started H enc _ => lifted os started H enc)

end Go.Proofs.Ytaekanhjkpoifaa.fnExactEventOk
