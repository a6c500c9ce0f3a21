/-
  FnPlaces returns true at every argument, and the argument reads afterwards as it read before. Conditions: none; the package's table of lead bytes is as the program's text lays it (the card ties it).
-/
import Derived.Test.YtkjlefejlcglgaaDoorLaw
import Derived.Test.YtkjlefejlcglgaaDoorCur5
import Derived.Test.YtkjlefejlcglgaaDoorP01d
namespace Go.Proofs.YtkjlefejlcglgaaDoor.fnPlaces
open Go.ChangeShapes Go.WideShapes Go.ChangeAt Go.RowKit P
set_option linter.unusedVariables false

set_option maxHeartbeats 4000000 in
theorem walk (A : Option Addr) (l : List UInt8) (c : Nat) (hc : l.length ≤ c) (hm : c ≤ maxLen) (w : World) (hB : Bs w A l) (hT : Tab w) :
    Calls Tryd.prog 4 #[.slice A l.length c] w fun e w' => e = .returned (.bool true) ∧ Below w.heap.size w w' := by
  by_cases hbig : 1048576 < l.length
  · have hb : decide (1048576 < l.length) = true := decide_eq_true hbig
    have HBG := Lib.hid hb
    clear hb hbig
    go_enter Tryd.func4, Tryd.ntmps4
    go_wp2_with (go_at_call 13; refine (big_any _ _ _ _).mono ?_; rintro e w' ⟨rfl, rfl⟩; rw [HBG.out])
    go_ret
    exact ⟨rfl, Below.refl _ _⟩
  · have hl : l.length ≤ 1048576 := by omega
    have hb : decide (1048576 < l.length) = false := decide_eq_false hbig
    have HBG := Lib.hid hb
    clear hb hbig hc hm
    go_enter Tryd.func4, Tryd.ntmps4
    go_wp2_with fail
    refine (big_any _ _ _ _).mono ?_
    rintro e w0 ⟨rfl, rfl⟩
    rw [HBG.out]
    go_wp2_with fail
    refine (drawRunesTo_any A l c _ hl (by exact hB)).mono ?_
    rintro e w1 ⟨v, L, a, rfl, hown, hL, ha0, ha1, hb1⟩
    have hT1 := hT.below hb1
    obtain ⟨A1, c1, rfl, hlc, hcm, hB1⟩ := hown.form
    have hc9 : c1 ≤ 9223372036854775807 := by unfold maxLen at hcm; omega
    clear hown hcm hT hB HBG
    have hge := runesTo_ge L a
    have hbd := runesTo_bd L a
    have hcut := cutOk_runesTo L a
    have hcount := placeOf_count L
    have hpr := placeOf_runesTo L a
    have hpn := placeOf_next L a
    have hno := fun h => runesTo_not (l := L) h a
    have hax : 0 ≤ runesTo L a → 0 ≤ a ∧ a ≤ L.length := fun h => by obtain ⟨_, k, e, hk, _, _⟩ := runesTo_pos h; omega
    have hno2 := fun h => runesTo_not (l := L) h L.length
    have hrc : runeCount L = runesTo L L.length := rfl
    have hge2 := runesTo_ge L L.length
    have hbd2 := runesTo_bd L L.length
    have hsz := codeSz_le (runeAt L a)
    have hszr : runeSize L a = codeSz (runeAt L a) := rfl
    generalize codeSz (runeAt L a) = s at *
    generalize hn : runesTo L a = n at *
    generalize hm : runesTo L L.length = m at *
    have HN := Lib.hid hn
    have HM := Lib.hid hm
    have HC := Lib.hid hcut
    have HRC := Lib.hid hrc
    have HSZ := Lib.hid hszr
    clear hn hm hcut hrc hszr
    generalize ht : isText L = t at *
    have HT := Lib.hid ht
    clear ht
    cases t
    · have hn1 := hno rfl
      have hm1 := hno2 rfl
      subst hn1 hm1
      have hdc : decide ((0 : Int) ≤ -1) = false := by decide
      have HD := Lib.hid hdc
      clear hcount hpr hpn hno hno2 hdc hax
      go_wp2_with fail
      refine (runesTo_any A1 L c1 _ _ hlc hc9 (by exact hT1) (by exact hB1)).mono ?_
      rintro e w2 ⟨rfl, n2, rfl⟩
      rw [HN.out]
      go_wp2_with fail
      refine (specRunesTo_any A1 L c1 _ _ hlc hc9 (by exact hB1)).mono ?_
      rintro e w3 ⟨rfl, hb3⟩
      rw [HN.out]
      have hB3 : Bs w3 A1 L := Bs.below (w := w1.drewN n2) hB1 hb3
      have hT3 : Tab w3 := Tab.below (w := w1.drewN n2) hT1 hb3
      have hb3 := below_then (below_drewN hb1 n2) hb3
      go_wp2_with fail
      refine (cutOk_any A1 L c1 _ _ hlc hc9 (by exact hT3) (by exact hB3)).mono ?_
      rintro e w4 ⟨rfl, n4, rfl⟩
      rw [HC.out, HD.out]
      go_wp2_with fail
      refine (specTextOk_any A1 L c1 _ hlc hc9 (by exact hB3)).mono ?_
      rintro e w5 ⟨rfl, hb5r⟩
      rw [HT.out]
      have hB5 : Bs w5 A1 L := Bs.below (w := w3.drewN n4) hB3 hb5r
      have hT5 : Tab w5 := Tab.below (w := w3.drewN n4) hT3 hb5r
      have hb5 := below_then (below_drewN hb3 n4) hb5r
      clear hb5r hB3 hT3 hb3 hB1 hT1 hb1
      go_wp2_with fail
      refine (runeCount_any A1 L c1 _ hlc hc9 (by exact hT5) (by exact hB5)).mono ?_
      rintro e w6 ⟨rfl, n6, rfl⟩
      rw [HRC.out]
      go_wp2
      go_ret
      exact ⟨rfl, below_drewN hb5 n6⟩
    · have hcount := hcount rfl
      have HCO := Lib.hid hcount
      clear hno hno2 hcount
      by_cases hneg : n < 0
      · have hn1 : n = -1 := by omega
        subst hn1
        have hdc : decide ((0 : Int) ≤ -1) = false := by decide
        have HD := Lib.hid hdc
        clear hpr hpn hdc hax
        go_wp2_with fail
        refine (runesTo_any A1 L c1 _ _ hlc hc9 (by exact hT1) (by exact hB1)).mono ?_
        rintro e w2 ⟨rfl, n2, rfl⟩
        rw [HN.out]
        go_wp2_with fail
        refine (specRunesTo_any A1 L c1 _ _ hlc hc9 (by exact hB1)).mono ?_
        rintro e w3 ⟨rfl, hb3⟩
        rw [HN.out]
        have hB3 : Bs w3 A1 L := Bs.below (w := w1.drewN n2) hB1 hb3
        have hT3 : Tab w3 := Tab.below (w := w1.drewN n2) hT1 hb3
        have hb3 := below_then (below_drewN hb1 n2) hb3
        go_wp2_with fail
        refine (cutOk_any A1 L c1 _ _ hlc hc9 (by exact hT3) (by exact hB3)).mono ?_
        rintro e w4 ⟨rfl, n4, rfl⟩
        rw [HC.out, HD.out]
        go_wp2_with fail
        refine (specTextOk_any A1 L c1 _ hlc hc9 (by exact hB3)).mono ?_
        rintro e w5 ⟨rfl, hb5r⟩
        rw [HT.out]
        have hB5 : Bs w5 A1 L := Bs.below (w := w3.drewN n4) hB3 hb5r
        have hT5 : Tab w5 := Tab.below (w := w3.drewN n4) hT3 hb5r
        have hb5 := below_then (below_drewN hb3 n4) hb5r
        clear hb5r hB3 hT3 hb3 hB1 hT1 hb1
        go_wp2_with fail
        refine (runeCount_any A1 L c1 _ hlc hc9 (by exact hT5) (by exact hB5)).mono ?_
        rintro e w6 ⟨rfl, n6, rfl⟩
        rw [HRC.out]
        go_wp2_with fail
        refine (runesTo_any A1 L c1 _ _ hlc hc9 (by exact hT5) (by exact hB5)).mono ?_
        rintro e w7 ⟨rfl, n7, rfl⟩
        rw [HM.out]
        go_wp2_with fail
        refine (runeCount_any A1 L c1 _ hlc hc9 (by exact hT5) (by exact hB5)).mono ?_
        rintro e w8 ⟨rfl, n8, rfl⟩
        rw [HRC.out]
        go_wp2_with fail
        refine (placeOf_any A1 L c1 _ _ (by omega) hlc hc9 (by exact hT5) (by exact hB5)).mono ?_
        rintro e w9 ⟨rfl, n9, rfl⟩
        rw [← HRC.out, HCO.out]
        go_wp2
        go_ret
        exact ⟨rfl, below_drewN hb5 _⟩
      · have hnn : 0 ≤ n := by omega
        have hdc : decide (0 ≤ n) = true := by simp [hnn]
        have hpr := hpr hnn
        have hax := hax hnn
        have hpn := hpn hnn
        have HD := Lib.hid hdc
        have HPR := Lib.hid hpr
        clear hpr hdc
        by_cases he : a = L.length
        · subst he
          clear hpn
          go_wp2_with fail
          refine (runesTo_any A1 L c1 _ _ hlc hc9 (by exact hT1) (by exact hB1)).mono ?_
          rintro e w2 ⟨rfl, n2, rfl⟩
          rw [HN.out]
          go_wp2_with fail
          refine (specRunesTo_any A1 L c1 _ _ hlc hc9 (by exact hB1)).mono ?_
          rintro e w3 ⟨rfl, hb3⟩
          rw [HN.out]
          have hB3 : Bs w3 A1 L := Bs.below (w := w1.drewN n2) hB1 hb3
          have hT3 : Tab w3 := Tab.below (w := w1.drewN n2) hT1 hb3
          have hb3 := below_then (below_drewN hb1 n2) hb3
          go_wp2_with fail
          refine (cutOk_any A1 L c1 _ _ hlc hc9 (by exact hT3) (by exact hB3)).mono ?_
          rintro e w4 ⟨rfl, n4, rfl⟩
          rw [HC.out, HD.out]
          go_wp2_with fail
          refine (specTextOk_any A1 L c1 _ hlc hc9 (by exact hB3)).mono ?_
          rintro e w5 ⟨rfl, hb5r⟩
          rw [HT.out]
          have hB5 : Bs w5 A1 L := Bs.below (w := w3.drewN n4) hB3 hb5r
          have hT5 : Tab w5 := Tab.below (w := w3.drewN n4) hT3 hb5r
          have hb5 := below_then (below_drewN hb3 n4) hb5r
          clear hb5r hB3 hT3 hb3 hB1 hT1 hb1
          go_wp2_with fail
          refine (runeCount_any A1 L c1 _ hlc hc9 (by exact hT5) (by exact hB5)).mono ?_
          rintro e w6 ⟨rfl, n6, rfl⟩
          rw [HRC.out]
          go_wp2_with fail
          refine (runesTo_any A1 L c1 _ _ hlc hc9 (by exact hT5) (by exact hB5)).mono ?_
          rintro e w7 ⟨rfl, n7, rfl⟩
          rw [HM.out]
          go_wp2_with fail
          refine (runeCount_any A1 L c1 _ hlc hc9 (by exact hT5) (by exact hB5)).mono ?_
          rintro e w8 ⟨rfl, n8, rfl⟩
          rw [HRC.out]
          go_wp2_with fail
          refine (placeOf_any A1 L c1 _ _ (by omega) hlc hc9 (by exact hT5) (by exact hB5)).mono ?_
          rintro e w9 ⟨rfl, n9, rfl⟩
          rw [← HRC.out, HCO.out]
          go_wp2_with fail
          refine (placeOf_any A1 L c1 _ _ (by omega) hlc hc9 (by exact hT5) (by exact hB5)).mono ?_
          rintro e w10 ⟨rfl, n10, rfl⟩
          rw [HPR.out]
          go_wp2
          go_ret
          exact ⟨rfl, below_drewN hb5 _⟩
        · have hpn := hpn he
          have HPN := Lib.hid hpn
          have hne : (a == (L.length : Int)) = false := by simp [he]
          clear hpn he
          go_wp2_with fail
          refine (runesTo_any A1 L c1 _ _ hlc hc9 (by exact hT1) (by exact hB1)).mono ?_
          rintro e w2 ⟨rfl, n2, rfl⟩
          rw [HN.out]
          go_wp2_with fail
          refine (specRunesTo_any A1 L c1 _ _ hlc hc9 (by exact hB1)).mono ?_
          rintro e w3 ⟨rfl, hb3⟩
          rw [HN.out]
          have hB3 : Bs w3 A1 L := Bs.below (w := w1.drewN n2) hB1 hb3
          have hT3 : Tab w3 := Tab.below (w := w1.drewN n2) hT1 hb3
          have hb3 := below_then (below_drewN hb1 n2) hb3
          go_wp2_with fail
          refine (cutOk_any A1 L c1 _ _ hlc hc9 (by exact hT3) (by exact hB3)).mono ?_
          rintro e w4 ⟨rfl, n4, rfl⟩
          rw [HC.out, HD.out]
          go_wp2_with fail
          refine (specTextOk_any A1 L c1 _ hlc hc9 (by exact hB3)).mono ?_
          rintro e w5 ⟨rfl, hb5r⟩
          rw [HT.out]
          have hB5 : Bs w5 A1 L := Bs.below (w := w3.drewN n4) hB3 hb5r
          have hT5 : Tab w5 := Tab.below (w := w3.drewN n4) hT3 hb5r
          have hb5 := below_then (below_drewN hb3 n4) hb5r
          clear hb5r hB3 hT3 hb3 hB1 hT1 hb1
          go_wp2_with fail
          refine (runeCount_any A1 L c1 _ hlc hc9 (by exact hT5) (by exact hB5)).mono ?_
          rintro e w6 ⟨rfl, n6, rfl⟩
          rw [HRC.out]
          go_wp2_with fail
          refine (runesTo_any A1 L c1 _ _ hlc hc9 (by exact hT5) (by exact hB5)).mono ?_
          rintro e w7 ⟨rfl, n7, rfl⟩
          rw [HM.out]
          go_wp2_with fail
          refine (runeCount_any A1 L c1 _ hlc hc9 (by exact hT5) (by exact hB5)).mono ?_
          rintro e w8 ⟨rfl, n8, rfl⟩
          rw [HRC.out]
          go_wp2_with fail
          refine (placeOf_any A1 L c1 _ _ (by omega) hlc hc9 (by exact hT5) (by exact hB5)).mono ?_
          rintro e w9 ⟨rfl, n9, rfl⟩
          rw [← HRC.out, HCO.out]
          go_wp2_with fail
          refine (placeOf_any A1 L c1 _ _ (by omega) hlc hc9 (by exact hT5) (by exact hB5)).mono ?_
          rintro e w10 ⟨rfl, n10, rfl⟩
          rw [HPR.out]
          go_wp2_with fail
          refine (placeOf_any A1 L c1 _ _ (by omega) hlc hc9 (by exact hT5) (by exact hB5)).mono ?_
          rintro e w11 ⟨rfl, n11, rfl⟩
          rw [HPN.out]
          go_wp2_with fail
          refine (specRuneSize_any A1 L c1 _ _ hlc hc9 (by exact hB5)).mono ?_
          rintro e w12 ⟨rfl, hb12⟩
          rw [HSZ.out]
          go_wp2
          go_ret
          exact ⟨by simp, below_then (below_drewN hb5 _) hb12⟩

theorem contract (H : Type) (enc : TypeId × Value → H) (W : World) (base : Nat) (args : Array Value) (ds gs : List (DataW H)) (before : List MemPlace)
    (hval : ∀ (j : Nat) t v, Tryd.f4.params[j]? = some t → args[j]? = some v → Value.okWide Tryd.prog W .any base t v)
    (hW : DataW.Whole enc Tryd.prog Tryd.f4.params.toList Rows.fnPlacesSpec.vars false W args.toList ds gs before) (hL : laidMetH Tryd.prog Rows.fnPlacesRow.laid W) :
    Calls Tryd.prog 4 args W fun e W' => ∃ v, e = .returned v ∧ Rows.fnPlacesSpec.post enc Tryd.prog Tryd.f4 false true false false W args v W' := by
  have hW' := hW
  obtain ⟨p, q, hA0, hV, rfl, hfz, hnd⟩ := hW
  have hA : DataW.TrodAll enc Tryd.prog W 0 (fun _ => true) true Tryd.f4.params.toList args.toList ds p := hA0
  rw [Tryd.params4] at hA hval
  obtain ⟨v0, vs0, d0, ds0, p0, q0, hargs, rfl, rfl, h0, r0⟩ := trodAll_cons hA
  obtain ⟨rfl, rfl, rfl⟩ := trodAll_nil r0
  obtain rfl : args = #[v0] := by cases args; simp_all
  obtain ⟨g, rfl⟩ : ∃ g, gs = [g] := by
    match gs, hV with
    | [g], _ => exact ⟨g, rfl⟩
  obtain ⟨a0, len0, cap0, rfl⟩ := okWide_slice Tryd.underlying22 (hval 0 22 v0 rfl rfl)
  have k0 := h0
  have lt0 : ∀ x ∈ p0, x.block < W.heap.size := by obtain ⟨m, hm⟩ := k0; exact DataW.trod_lt m _ _ _ hm
  obtain ⟨z0, w0⟩ : ∃ zs, IsRow .u8 W a0 len0 cap0 zs := by
    obtain ⟨fuel, hf⟩ := h0
    rcases open_ints Tryd.underlying22 Tryd.underlying5 (by kernel_rfl) hf with ⟨hcs, _⟩ | ⟨x, l, c, zs, hcs, _, hl, hm, hz, _, hcell, hwz⟩
    · simp [Value.cells] at hcs
      obtain ⟨rfl, rfl, rfl⟩ := hcs
      exact ⟨[], .inl ⟨rfl, rfl, rfl, rfl⟩⟩
    · simp [Value.cells] at hcs
      obtain ⟨rfl, rfl, rfl⟩ := hcs
      exact ⟨zs, .inr ⟨_, rfl, hl, hm, by simpa using hz, hcell, hwz⟩⟩
  obtain ⟨l0, rfl, hc0, hm0, hB0⟩ := bs_of_row w0
  clear hA0
  refine (walk a0 l0 cap0 hc0 hm0 W hB0 (tab_of hL)).mono fun e W' ⟨he, bel⟩ => ?_
  subst he
  exact ⟨_, rfl, _, _, _, [], _, _, hW', trodAll_mk1 (shut_bool Tryd.underlying4 _), (trodAll_cons_mk (Below.trod laidOut (by kernel_rfl) (of_decide_eq_true (by kernel_rfl)) k0 bel lt0) trodAll_mk0), Below.trodVars laidOut bel (by kernel_rfl) hV, bel.frame _, fun h => by cases h⟩

theorem laid_met (os : Os) : laidMet Tryd.prog Rows.fnPlacesRow.laid ((laidWorld os).forCall (fun _ _ => 0) ⟨#[], #[.slice none 0 0], []⟩).memory :=
  laidMet_of_run' 8 (by kernel_rfl) (by kernel_rfl)
theorem reads (os : Os) {H : Type} (enc : TypeId × Value → H) : ∃ gs places, DataW.whole enc Tryd.prog ((laidWorld os).forCall (fun _ _ => 0) ⟨#[], #[.slice none 0 0], []⟩).memory Tryd.f4.params.toList Rows.fnPlacesSpec.vars false #[.slice none 0 0].toList 8 = some ([.nil], gs, places) :=
  ⟨[.agg [.lit (.int .u8 0), .lit (.int .u8 0), .lit (.int .u8 192), .lit (.int .u8 224), .lit (.int .u8 240)]], [.cell 0 0, .cell 0 1, .cell 0 2, .cell 0 3, .cell 0 4], by kernel_rfl⟩

set_option maxRecDepth 100000 in
theorem lifted (os : Os) (started : os.Started) (H : Type) (enc : TypeId × Value → H) (F : Stop.Interp) :
    ReturnsInHanded {} Tryd.checked os 4 .any ((OpenSpec.ofChange Rows.fnPlacesSpec).preRow enc Tryd.prog Tryd.f4 Rows.fnPlacesRow.domain false Rows.fnPlacesRow.laid) (((OpenSpec.ofChange Rows.fnPlacesSpec).at F).post enc Tryd.prog Tryd.f4 false true false false) := by
  obtain ⟨gs, places, hx⟩ := reads os enc
  refine returnsInHanded_of_row (C := Tryd.checked) (s := OpenSpec.ofChange Rows.fnPlacesSpec) own started (by kernel_rfl) Tryd.func4
    (witness_row_at (enc := enc) (C := Tryd.checked) false (laidWorld os) #[.slice none 0 0] rfl (by kernel_rfl) (by kernel_rfl) (by kernel_rfl)
      (OpenSpec.preRow_of_cond 8 hx (by kernel_rfl) (fun k hk => by cases hk) (by kernel_rfl) (laid_met os))) ?_
  intro W base args ds gs before hval hW _ _ _ hL _ _
  exact contract H enc W base args ds gs before hval hW hL

theorem said : Rows.FnPlacesSaid :=
  OpenClaim.holds_of_cond 4 Tryd.f4 rfl rfl rfl rfl rfl rfl rfl ⟨rfl, rfl, rfl, rfl, rfl⟩ rfl rfl rfl rfl rfl (by kernel_rfl) Tryd.func4 (by kernel_rfl)
    (of_decide_eq_true (by kernel_rfl)) (by unfold Func.isWrapper; first | (rw [if_pos (by decide +kernel)]; kernel_rfl) | (rw [if_neg (by decide +kernel)]; exact ⟨rfl, rfl⟩))
    (fun os started H enc _ F => by rw [OpenClaim.pre_eq_preRow]; exact lifted os started H enc F)

theorem plain (f : FuncId) (fn : Func) (hf : Tryd.pinned.checked.prog.funcNamed "loop.example/g00677/laws.FnPlaces" = some f) (hfn : Tryd.pinned.checked.prog.funcs[f]? = some fn) :
    false = Tryd.pinned.checked.prog.looks [] ∧ ∀ (j : Nat) t, fn.params[j]? = some t → Tryd.pinned.checked.prog.wantsStandIn t = false := by
  obtain rfl : f = 4 := Option.some.inj ((show Tryd.prog.funcNamed "loop.example/g00677/laws.FnPlaces" = some 4 by kernel_rfl).symm.trans hf) |>.symm
  obtain rfl : fn = Tryd.f4 := (Option.some.inj (Tryd.func4.symm.trans hfn)).symm
  refine ⟨by kernel_rfl, fun j t ht => ?_⟩
  have hall : Tryd.f4.params.toList.all (fun t => !Tryd.prog.wantsStandIn t) = true := by kernel_rfl
  have hm : t ∈ Tryd.f4.params.toList := by simpa using Array.mem_of_getElem? ht
  exact (show Tryd.prog.wantsStandIn t = false by simpa using List.all_eq_true.1 hall t hm)

/-- THE CARD -/
theorem card : Rows.FnPlacesCardSaid :=
  Claim7.holds_tied_plain_at .later [] _ _ _ _ said (fun _ h => by cases h) (by kernel_rfl) (fun _ h => by cases h) fnPlaces_row_tie rfl ⟨rfl, rfl⟩ (by kernel_rfl) rfl plain (by kernel_rfl)

end Go.Proofs.YtkjlefejlcglgaaDoor.fnPlaces
