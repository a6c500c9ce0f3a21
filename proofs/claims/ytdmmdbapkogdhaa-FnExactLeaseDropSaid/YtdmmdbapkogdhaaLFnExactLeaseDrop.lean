/-
  FnExactLeaseDrop returns true at every argument, and the arguments read afterwards as they read before. Conditions: none.
-/
import Derived.Test.YtdmmdbapkogdhaaRows
import Derived.Test.YtdmmdbapkogdhaaOpen9
import Derived.Test.YtdmmdbapkogdhaaWFnExactLeaseDrop
namespace Go.Proofs.Ytdmmdbapkogdhaa.fnExactLeaseDrop
open Go.ChangeShapes Go.WideShapes Go.ChangeAt Go.RowKit P
set_option linter.unusedVariables false
set_option maxRecDepth 100000

set_option maxRecDepth 100000 in
theorem lifted (os : Os) (started : os.Started) (H : Type) (enc : TypeId × Value → H) :
    ReturnsInHanded {} Try.checked os 12 .any (Rows.fnExactLeaseDropSpec.pre6 enc Try.prog Try.f12 Rows.fnExactLeaseDropRow.domain false) (Rows.fnExactLeaseDropSpec.post enc Try.prog Try.f12 false true false false) := by
  refine returnsInHanded_of_change (C := Try.checked) own started (by kernel_rfl) Try.func12
    (ChangeSpec.witness6 (enc := enc) (C := Try.checked) false ⟨#[], #[.slice none 0 0, .agg #[.int .i64 0, .int .i64 0, .int .i64 0, .int .i64 0]], []⟩ 8 (by kernel_rfl) (by kernel_rfl) (by kernel_rfl) (by kernel_rfl)) ?_
  intro W base args ds gs before hval0 hW hcnd _
  have hval : ∀ (j : Nat) t v, Try.f12.params[j]? = some t → args[j]? = some v → Value.okWide Try.prog W .any base t v := hval0
  have hW' := hW
  obtain ⟨p, q, hA0, hV, rfl, hfz, hnd⟩ := hW
  have hA : DataW.TrodAll enc Try.prog W 0 (fun _ => true) true Try.f12.params.toList args.toList ds p := hA0
  rw [Try.params12] at hA hval
  obtain ⟨v0, vs0, d0, ds0, p0, q0, hargs, rfl, rfl, h0, r0⟩ := trodAll_cons hA
  obtain ⟨v1, vs1, d1, ds1, p1, q1, rfl, rfl, rfl, h1, r1⟩ := trodAll_cons r0
  obtain ⟨rfl, rfl, rfl⟩ := trodAll_nil r1
  obtain rfl : args = #[v0, v1] := by cases args; simp_all
  obtain ⟨rfl, rfl⟩ := trodVars_none hV
  obtain ⟨a0, len0, cap0, rfl⟩ := okWide_slice Try.underlying66 (hval 0 66 v0 rfl rfl)
  have k0 := h0
  have lt0 : ∀ x ∈ p0, x.block < W.heap.size := by obtain ⟨m, hm⟩ := k0; exact DataW.trod_lt m _ _ _ hm
  obtain ⟨l0, A0, c0, e0, hc0, hm0, hB0⟩ : ∃ l, (Lay.slice 70 Lay.lease).rd W [.slice a0 len0 cap0] l := by
    obtain ⟨fuel, hf⟩ := h0
    exact reads_leases (fun _ => rfl) fuel _ _ hf
  cases e0
  obtain ⟨cs1, rfl, _⟩ := okWide_struct Try.underlying70 (hval 1 70 v1 rfl rfl)
  have k1 := h1
  have lt1 : ∀ x ∈ p1, x.block < W.heap.size := by obtain ⟨m, hm⟩ := k1; exact DataW.trod_lt m _ _ _ hm
  obtain ⟨g1, hg1⟩ : ∃ d, Lay.lease.rd W cs1.toList d := by
    obtain ⟨fuel, hf⟩ := h1
    exact reads_lease fuel _ _ hf
  obtain ⟨i1, j1, s1, t1⟩ := g1
  obtain ⟨e1, hin1⟩ := Lay.lease_rd hg1
  obtain rfl : cs1 = #[.int .i64 i1, .int .i64 j1, .int .i64 s1, .int .i64 t1] := by cases cs1; simp [leC] at e1; subst e1; rfl
  clear hA0 hval0
  refine (walk a0 l0 cap0 hc0 hm0 i1 j1 s1 t1 hin1 W hB0 ).mono fun e W' ⟨he, bel⟩ => ?_
  subst he
  exact ⟨_, rfl, _, _, _, [], _, [], hW', trodAll_mk1 (shut_bool Try.underlying4 _), (trodAll_cons_mk (Below.trod laidOut (by kernel_rfl) (of_decide_eq_true (by kernel_rfl)) k0 bel lt0) (trodAll_cons_mk (Below.trod laidOut (by kernel_rfl) (of_decide_eq_true (by kernel_rfl)) k1 bel lt1) trodAll_mk0)), rfl, bel.frame _, fun h => by cases h⟩

set_option maxRecDepth 100000 in
set_option maxHeartbeats 4000000 in
theorem closed : joinedFacts Try.pinned.checked.prog 12 Try.f12 Rows.fnExactLeaseDropSpec Rows.fnExactLeaseDropRow = true := by
  have hl : Try.pinned.checked.prog.initOrder.toList = _ := (fun {s : String} {l : List Char} (h : s = String.ofList l) => (by rw [h, String.toList_ofList] : s.toList = l)) rfl
  unfold joinedFacts
  repeat' (with_reducible refine Bool.and_eq_true_iff.2 ⟨?_, ?_⟩)
  all_goals first
    | (unfold Program.mayEnter; rw [hl]; (as_aux_lemma => kernel_rfl))
    | (unfold Program.liftsFinal Program.headLifts; rw [hl]; (as_aux_lemma => kernel_rfl))
    | (unfold Program.make Program.headLifts; rw [hl]; (as_aux_lemma => kernel_rfl))
    | (as_aux_lemma => kernel_rfl)

/-- THE STATEMENT -/
theorem said : Rows.FnExactLeaseDropSaid :=
  OpenClaim.holds_of_wide 12 Try.f12 rfl rfl rfl rfl rfl rfl rfl ⟨rfl, rfl, rfl, rfl, rfl⟩ rfl rfl rfl rfl rfl (by kernel_rfl) Try.func12
    closed
    (of_decide_eq_true (by kernel_rfl)) (by unfold Func.isWrapper; first | (rw [if_pos (by decide +kernel)]; kernel_rfl) | (rw [if_neg (by decide +kernel)]; exact ⟨rfl, rfl⟩))
    (fun os started H enc _ => lifted os started H enc)

end Go.Proofs.Ytdmmdbapkogdhaa.fnExactLeaseDrop
