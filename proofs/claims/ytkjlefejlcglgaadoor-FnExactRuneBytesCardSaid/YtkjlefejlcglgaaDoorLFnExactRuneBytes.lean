/-
  FnExactRuneBytes returns true at every argument, and the argument reads afterwards as it read before. Conditions: none; the package's table of lead bytes is as the program's text lays it (the card ties it).
-/
import Derived.Test.YtkjlefejlcglgaaDoorLaw
import Derived.Test.YtkjlefejlcglgaaDoorMark
namespace Go.Proofs.YtkjlefejlcglgaaDoor.fnExactRuneBytes
open Go.ChangeShapes Go.WideShapes Go.ChangeAt Go.RowKit P
set_option linter.unusedVariables false

set_option maxHeartbeats 2000000 in
theorem walk (a : Int) (ha : -9223372036854775808 ≤ a ∧ a ≤ 9223372036854775807) (w : World) (hT : Tab w) :
    Calls Tryd.prog 8 #[.int .i64 a] w fun e w' => e = .returned (.bool true) ∧ Below w.heap.size w w' := by
  have hlen : (enc a).length ≤ 4 := by rw [enc_length]; exact codeSz_le a
  have htt : decide (enc a = enc a) = true := by simp
  go_enter Tryd.func8, Tryd.ntmps8
  go_wp2_with fail
  refine (specRuneBytes_any a _).mono ?_
  rintro e w1 ⟨v0, rfl, hown0, hb1⟩
  have hT1 := hT.below hb1
  have hlt0 := fun k hk => (World.ownsRow.lt hown0 k hk).2
  go_wp2_with fail
  refine (implRuneBytes_any a _ (by exact hT1)).mono ?_
  rintro e w2 ⟨v1, rfl, hown1, hb2⟩
  have hown0 := hown0.below hb2
  have hT2 := hT1.below hb2
  have hlo := fun k hk => (World.ownsRow.lt hown1 k hk).1
  obtain ⟨A0, c0, rfl, _, _, hB0⟩ := hown0.form
  obtain ⟨A1, c1, rfl, _, _, hB1⟩ := hown1.form
  have hapart : (Value.slice A0 (enc a).length c0).ownBlock = none ∨ (Value.slice A0 (enc a).length c0).ownBlock ≠ (Value.slice A1 (enc a).length c1).ownBlock := by
    cases h0 : (Value.slice A0 (enc a).length c0).ownBlock with
    | none => exact .inl rfl
    | some k =>
      right
      intro e
      have h1 := hlt0 k h0
      have h2 := hlo k e.symm
      omega
  have hold : Below w.heap.size w w2 := below_then hb1 hb2
  generalize hEq : enc a = E at *
  have HA := Lib.hid hapart
  have HE := Lib.hid hEq
  clear hlt0 hlo hapart hEq
  go_wp2_with fail
  refine (eqByteS_any _ _ E E _ _ _ (by omega) (by exact hB1) (by exact hB0)).mono ?_
  rintro e w3 ⟨rfl, n3, rfl⟩
  go_wp2_with fail
  refine (markByteS_any _ E w1.heap.size 1 _ (by omega) (by omega) (by exact hown1)).mono ?_
  rintro e w4 ⟨rfl, hown4, hgr4⟩
  have hown40 : Own w4 w.heap.size (.slice A0 E.length c0) E := World.ownsRow.kept (w := w2.drewN n3) hown0 hgr4 HA.out
  have hold4 : Below w.heap.size w w4 := (below_drewN hold n3).grown hgr4 (hold.size) (fun k hk => by have h := (World.ownsRow.lt hown1 k hk).1; have := hb1.size; omega)
  have hT4 : Tab w4 := hT.below hold4
  obtain ⟨A4, c4, hv4, _, _, hB4⟩ := hown4.form
  rw [marks_length] at hv4
  cases hv4
  clear hgr4 hown0 hB0 hB1 hown1 hT1 hT2 hb2
  go_wp2_with fail
  refine (heldByteS_any _ E.length _ 1 _ (by omega) (by omega) (by exact hB4)).mono ?_
  rintro e w5 ⟨rfl, rfl⟩
  go_wp2_with fail
  refine (implRuneBytes_any a _ (by exact hT4)).mono ?_
  rintro e w6 ⟨v6, rfl, hown6, hb6⟩
  rw [HE.out] at hown6
  obtain ⟨A6, c6, rfl, _, _, hB6⟩ := hown6.form
  have hB06 : Bs w6 A0 E := by obtain ⟨A', c', e', _, _, hB'⟩ := (hown40.below hb6).form; cases e'; exact hB'
  have hB46 := hB4.below hb6
  have hold6 := below_then hold4 hb6
  clear hown40 hown6 hold4 hown4 hb6 hB4 hT4
  go_wp2_with fail
  refine (eqByteS_any _ _ E E _ _ _ (by omega) (by exact hB6) (by exact hB06)).mono ?_
  rintro e w7 ⟨rfl, n7, rfl⟩
  go_wp2_with fail
  refine (heldByteS_any _ E.length _ 1 _ (by omega) (by omega) (by exact hB46)).mono ?_
  rintro e w8 ⟨rfl, rfl⟩
  go_wp2
  go_ret
  exact ⟨rfl, below_drewN hold6 n7⟩

theorem contract (H : Type) (enc : TypeId × Value → H) (W : World) (base : Nat) (args : Array Value) (ds gs : List (DataW H)) (before : List MemPlace)
    (hval : ∀ (j : Nat) t v, Tryd.f8.params[j]? = some t → args[j]? = some v → Value.okWide Tryd.prog W .any base t v)
    (hW : DataW.Whole enc Tryd.prog Tryd.f8.params.toList Rows.fnExactRuneBytesSpec.vars false W args.toList ds gs before) (hL : laidMetH Tryd.prog Rows.fnExactRuneBytesRow.laid W) :
    Calls Tryd.prog 8 args W fun e W' => ∃ v, e = .returned v ∧ Rows.fnExactRuneBytesSpec.post enc Tryd.prog Tryd.f8 false true false false W args v W' := by
  have hW' := hW
  obtain ⟨p, q, hA0, hV, rfl, hfz, hnd⟩ := hW
  have hA : DataW.TrodAll enc Tryd.prog W 0 (fun _ => true) true Tryd.f8.params.toList args.toList ds p := hA0
  rw [Tryd.params8] at hA hval
  obtain ⟨v0, vs0, d0, ds0, p0, q0, hargs, rfl, rfl, h0, r0⟩ := trodAll_cons hA
  obtain ⟨rfl, rfl, rfl⟩ := trodAll_nil r0
  obtain rfl : args = #[v0] := by cases args; simp_all
  obtain ⟨g, rfl⟩ : ∃ g, gs = [g] := by
    match gs, hV with
    | [g], _ => exact ⟨g, rfl⟩
  obtain ⟨a0, rfl, rfl, rfl, w0⟩ := open_int Tryd.underlying3 (hval 0 3 v0 rfl rfl) h0
  have hb0 : -9223372036854775808 ≤ a0 ∧ a0 ≤ 9223372036854775807 := by simpa [Lit.wf, IntKind.min, IntKind.max, IntKind.signed, IntKind.bits] using w0
  clear hA0
  refine (walk a0 hb0 W  (tab_of hL)).mono fun e W' ⟨he, bel⟩ => ?_
  subst he
  exact ⟨_, rfl, _, _, _, [], _, _, hW', trodAll_mk1 (shut_bool Tryd.underlying4 _), (trodAll_cons_mk (shut_int Tryd.underlying3 w0) trodAll_mk0), Below.trodVars laidOut bel (by kernel_rfl) hV, bel.frame _, fun h => by cases h⟩

theorem laid_met (os : Os) : laidMet Tryd.prog Rows.fnExactRuneBytesRow.laid ((laidWorld os).forCall (fun _ _ => 0) ⟨#[], #[.int .i64 0], []⟩).memory :=
  laidMet_of_run' 8 (by kernel_rfl) (by kernel_rfl)
theorem reads (os : Os) {H : Type} (enc : TypeId × Value → H) : ∃ gs places, DataW.whole enc Tryd.prog ((laidWorld os).forCall (fun _ _ => 0) ⟨#[], #[.int .i64 0], []⟩).memory Tryd.f8.params.toList Rows.fnExactRuneBytesSpec.vars false #[.int .i64 0].toList 8 = some ([.lit (.int .i64 0)], gs, places) :=
  ⟨[.agg [.lit (.int .u8 0), .lit (.int .u8 0), .lit (.int .u8 192), .lit (.int .u8 224), .lit (.int .u8 240)]], [.cell 0 0, .cell 0 1, .cell 0 2, .cell 0 3, .cell 0 4], by kernel_rfl⟩

set_option maxRecDepth 100000 in
theorem lifted (os : Os) (started : os.Started) (H : Type) (enc : TypeId × Value → H) (F : Stop.Interp) :
    ReturnsInHanded {} Tryd.checked os 8 .any ((OpenSpec.ofChange Rows.fnExactRuneBytesSpec).preRow enc Tryd.prog Tryd.f8 Rows.fnExactRuneBytesRow.domain false Rows.fnExactRuneBytesRow.laid) (((OpenSpec.ofChange Rows.fnExactRuneBytesSpec).at F).post enc Tryd.prog Tryd.f8 false true false false) := by
  obtain ⟨gs, places, hx⟩ := reads os enc
  refine returnsInHanded_of_row (C := Tryd.checked) (s := OpenSpec.ofChange Rows.fnExactRuneBytesSpec) own started (by kernel_rfl) Tryd.func8
    (witness_row_at (enc := enc) (C := Tryd.checked) false (laidWorld os) #[.int .i64 0] rfl (by kernel_rfl) (by kernel_rfl) (by kernel_rfl)
      (OpenSpec.preRow_of_cond 8 hx (by kernel_rfl) (fun k hk => by cases hk) (by kernel_rfl) (laid_met os))) ?_
  intro W base args ds gs before hval hW _ _ _ hL _ _
  exact contract H enc W base args ds gs before hval hW hL

theorem said : Rows.FnExactRuneBytesSaid :=
  OpenClaim.holds_of_cond 8 Tryd.f8 rfl rfl rfl rfl rfl rfl rfl ⟨rfl, rfl, rfl, rfl, rfl⟩ rfl rfl rfl rfl rfl (by kernel_rfl) Tryd.func8 (by kernel_rfl)
    (of_decide_eq_true (by kernel_rfl)) (by unfold Func.isWrapper; first | (rw [if_pos (by decide +kernel)]; kernel_rfl) | (rw [if_neg (by decide +kernel)]; exact ⟨rfl, rfl⟩))
    (fun os started H enc _ F => by rw [OpenClaim.pre_eq_preRow]; exact lifted os started H enc F)

theorem plain (f : FuncId) (fn : Func) (hf : Tryd.pinned.checked.prog.funcNamed "loop.example/g00677/laws.FnExactRuneBytes" = some f) (hfn : Tryd.pinned.checked.prog.funcs[f]? = some fn) :
    false = Tryd.pinned.checked.prog.looks [] ∧ ∀ (j : Nat) t, fn.params[j]? = some t → Tryd.pinned.checked.prog.wantsStandIn t = false := by
  obtain rfl : f = 8 := Option.some.inj ((show Tryd.prog.funcNamed "loop.example/g00677/laws.FnExactRuneBytes" = some 8 by kernel_rfl).symm.trans hf) |>.symm
  obtain rfl : fn = Tryd.f8 := (Option.some.inj (Tryd.func8.symm.trans hfn)).symm
  refine ⟨by kernel_rfl, fun j t ht => ?_⟩
  have hall : Tryd.f8.params.toList.all (fun t => !Tryd.prog.wantsStandIn t) = true := by kernel_rfl
  have hm : t ∈ Tryd.f8.params.toList := by simpa using Array.mem_of_getElem? ht
  exact (show Tryd.prog.wantsStandIn t = false by simpa using List.all_eq_true.1 hall t hm)

/-- THE CARD -/
theorem card : Rows.FnExactRuneBytesCardSaid :=
  Claim7.holds_tied_plain_at .later [] _ _ _ _ said (fun _ h => by cases h) (by kernel_rfl) (fun _ h => by cases h) fnExactRuneBytes_row_tie rfl ⟨rfl, rfl⟩ (by kernel_rfl) rfl plain (by kernel_rfl)

end Go.Proofs.YtkjlefejlcglgaaDoor.fnExactRuneBytes
