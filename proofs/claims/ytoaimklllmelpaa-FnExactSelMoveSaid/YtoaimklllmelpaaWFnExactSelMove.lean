/-
  FnExactSelMove, its walk. Own work.
-/
import Derived.Test.YtoaimklllmelpaaLaw0
import Derived.Test.YtoaimklllmelpaaC05
import Derived.Test.YtoaimklllmelpaaC06
import Derived.ProofKit
import Derived.OpenShut
import Derived.OpenVars
import Derived.ChangeOld
import Derived.Deep.DeepHandedRow
import Derived.Deep.RegionHeld3
import Derived.Deep.DeepCutAuto
namespace Go.Proofs.Ytoaimklllmelpaa.fnExactSelMove
open Go.ChangeShapes Go.WideShapes Go.ChangeAt Go.RowKit P
set_option linter.unusedVariables false
set_option maxRecDepth 100000

set_option maxHeartbeats 16000000 in
theorem walk (a0 m0 : Int) (ha0 : -9223372036854775808 ≤ a0 ∧ a0 ≤ 9223372036854775807) (hn0 : -9223372036854775808 ≤ m0 ∧ m0 ≤ 9223372036854775807) (a1 m1 : Int) (ha1 : -9223372036854775808 ≤ a1 ∧ a1 ≤ 9223372036854775807) (hn1 : -9223372036854775808 ≤ m1 ∧ m1 ≤ 9223372036854775807) (A1 : Option Addr) (l1 : List UInt8) (c1 : Nat) (hc1 : l1.length ≤ c1) (hm1 : c1 ≤ maxLen) (a2 : Bool) (w : World) (hL1 : Bs w A1 l1) :
    Calls Try.prog 9 #[.agg #[.int .i64 a0, .int .i64 m0], .agg #[.int .i64 a1, .int .i64 m1, .slice A1 l1.length c1], .bool a2] w fun e w' => e = .returned (.bool true) ∧ Below w.heap.size w w' := by
  have hn91 : l1.length ≤ 9223372036854775807 := by unfold maxLen at hm1; omega
  clear hc1 hm1
  have BS := (Blk.new w #[.int .i64 a0, .int .i64 m0] 49).below ((Below.refl _ _).alloc (Nat.le_refl _) (.cells #[.int .i64 a1, .int .i64 m1, .slice A1 l1.length c1] 24))
  have BE := Blk.new (w.alloc (.cells #[.int .i64 a0, .int .i64 m0] 49)) #[.int .i64 a1, .int .i64 m1, .slice A1 l1.length c1] 24
  simp only [World.size_alloc] at BE
  have hb0 := ((Below.refl w.heap.size w).alloc (Nat.le_refl _) (.cells #[.int .i64 a0, .int .i64 m0] 49)).alloc (by simp) (.cells #[.int .i64 a1, .int .i64 m1, .slice A1 l1.length c1] 24)
  obtain ⟨x, hx⟩ : ∃ x, selF a0 m0 a1 m1 l1 a2 = x := ⟨_, rfl⟩
  obtain ⟨y, hy⟩ : ∃ x, selT a0 m0 a1 m1 l1 a2 = x := ⟨_, rfl⟩
  have HX := Lib.hid hx
  have HY := Lib.hid hy
  clear hx hy
  go_enter Try.func9, Try.ntmps9
  go_wp2_with fail
  generalize (w.alloc (.cells #[.int .i64 a0, .int .i64 m0] 49)).alloc (.cells #[.int .i64 a1, .int .i64 m1, .slice A1 l1.length c1] 24) = W0 at *
  have e0 := BE.cell 0
  have e1 := BE.cell 1
  have e2 := BE.cell 2
  have HB := Lib.hid hb0
  refine (szEdit_any a1 m1 A1 l1.length c1 1048576 _ hn91 (by omega) (by omega)).mono ?_
  rintro e s1 ⟨⟨r1, rfl, hr1⟩, hb1⟩
  have HS := Lib.hid (BS.below hb1)
  have HE := Lib.hid (BE.below hb1)
  have HB := Lib.hid (below_then HB.out hb1)
  clear hb0 hb1 BS BE e0 e1 e2
  by_cases hneg : r1 < 0
  · go_wp2
    go_ret
    exact ⟨rfl, HB.out⟩
  have hl1 : l1.length ≤ 1048576 := by omega
  clear hr1
  have s0 := HS.out.cell 0
  have s1' := HS.out.cell 1
  have e0 := HE.out.cell 0
  have e1 := HE.out.cell 1
  have e2 := HE.out.cell 2
  have mL := Lib.hid (hL1.below HB.out)
  go_upto_region 5 with fail
  go_cut [8] (fun p wx => ∃ (b : Nat), p = .pointer (some ⟨b, 0, none⟩) ∧ Blk wx b #[.int .i64 x, .int .i64 y] 50 ∧ s1.heap.size ≤ b ∧ Below s1.heap.size s1 wx)
  case first =>
    have mH0 : Hid (Below s1.heap.size s1 s1.drew) := Lib.hid (Below.refl s1.heap.size s1).drew
    have mz0 : s1.drew.heap.size = s1.heap.size := World.size_drew s1
    refine wp_region_noPanic ?_
    refine wp_region_held_drew (S := (fun V => (V).cell? ⟨w.heap.size, 0, none⟩ = some (.int .i64 a0) ∧ (V).cell? ⟨w.heap.size, 1, none⟩ = some (.int .i64 m0) ∧ (V).cell? ⟨w.heap.size + 1, 0, none⟩ = some (.int .i64 a1) ∧ (V).cell? ⟨w.heap.size + 1, 1, none⟩ = some (.int .i64 m1) ∧ (V).cell? ⟨w.heap.size + 1, 2, none⟩ = some (.slice A1 l1.length c1))) (by kernel_rfl) (by exact ⟨s0, s1', e0, e1, e2⟩) (fun hHeld => ?_)
    refine wpAnyH_take (i := 0) (oi := ?_) (v := ?_) ?_ ?_ ?_ ?_ ?_ ?_ (by exact hHeld) ?_
    rotate_left 2
    · (simp only [List.getElem?_toArray, List.getElem?_cons_zero]; try rfl)
    · kernel_rfl
    · kernel_rfl
    · kernel_rfl
    · exact fun _ _ _ h => h
    · refine Or.inl ⟨by rfl, ?_⟩
      (intro V hSV; (try dsimp only at hSV); obtain ⟨q0, q1, q2, q3, q4⟩ := hSV; go_simp; try with_reducible rfl)
    (try simp only [Act.put, List.setIfInBounds_toArray, List.set_cons_zero, List.set_cons_succ])
    refine wpAnyH_take (i := 2) (oi := ?_) (v := ?_) ?_ ?_ ?_ ?_ ?_ ?_ (by exact hHeld) ?_
    rotate_left 2
    · (simp only [List.getElem?_toArray, List.getElem?_cons_zero, List.getElem?_cons_succ]; try rfl)
    · kernel_rfl
    · kernel_rfl
    · kernel_rfl
    · exact fun _ _ _ h => h
    · refine Or.inl ⟨by rfl, ?_⟩
      (intro V hSV; (try dsimp only at hSV); obtain ⟨q0, q1, q2, q3, q4⟩ := hSV; go_simp; try with_reducible rfl)
    (try simp only [Act.put, List.setIfInBounds_toArray, List.set_cons_zero, List.set_cons_succ])
    refine wpAnyH_take (i := 4) (oi := ?_) (v := ?_) ?_ ?_ ?_ ?_ ?_ ?_ (by exact hHeld) ?_
    rotate_left 2
    · (simp only [List.getElem?_toArray, List.getElem?_cons_zero, List.getElem?_cons_succ]; try rfl)
    · kernel_rfl
    · kernel_rfl
    · kernel_rfl
    · exact fun _ _ _ h => h
    · refine Or.inl ⟨by rfl, ?_⟩
      (intro V hSV; (try dsimp only at hSV); obtain ⟨q0, q1, q2, q3, q4⟩ := hSV; go_simp; try with_reducible rfl)
    (try simp only [Act.put, List.setIfInBounds_toArray, List.set_cons_zero, List.set_cons_succ])
    refine wpAnyH_ready (rs := [1, 6]) (by kernel_rfl) (by simp) ?_
    refine AllReadyH.cons (o := ?_) ?_ (fun K hK => ?_) ?_
    rotate_left 1
    · (simp only [List.getElem?_toArray, List.getElem?_cons_zero, List.getElem?_cons_succ]; try rfl)
    · go_simp
      refine (toSel_any a0 m0 _).mono ?_
      rintro e my1 ⟨rfl, hb⟩
      have zY1 := mH0.out.size
      have mH1 := Lib.hid (below_then mH0.out hb)
      clear hb
      go_wp2_with fail
      refine hK.out _ _ (by exact ⟨(HS.out.below mH1.out).cell 0, (HS.out.below mH1.out).cell 1, (HE.out.below mH1.out).cell 0, (HE.out.below mH1.out).cell 1, (HE.out.below mH1.out).cell 2⟩) (fun hHeld => ?_)
      clear hK K
      (try simp only [Act.put, List.setIfInBounds_toArray, List.set_cons_zero, List.set_cons_succ])
      refine wpAnyH_ready (rs := [3, 6]) (by kernel_rfl) (by simp) ?_
      refine AllReadyH.cons (o := ?_) ?_ (fun K hK => ?_) ?_
      rotate_left 1
      · (simp only [List.getElem?_toArray, List.getElem?_cons_zero, List.getElem?_cons_succ]; try rfl)
      · go_simp
        refine (toEdit_any a1 m1 A1 l1 c1 _ hl1 (by exact mL.out.below mH1.out)).mono ?_
        rintro e my2 ⟨v, rfl, hown, hb⟩
        obtain ⟨mA, mc, rfl, _, _, hBv⟩ := hown.form
        clear hown hBv
        have zY2 := mH1.out.size
        have mH2 := Lib.hid (below_then mH1.out hb)
        clear hb
        go_wp2_with fail
        refine hK.out _ _ (by exact ⟨(HS.out.below mH2.out).cell 0, (HS.out.below mH2.out).cell 1, (HE.out.below mH2.out).cell 0, (HE.out.below mH2.out).cell 1, (HE.out.below mH2.out).cell 2⟩) (fun hHeld => ?_)
        clear hK K
        (try simp only [Act.put, List.setIfInBounds_toArray, List.set_cons_zero, List.set_cons_succ])
        refine wpAnyH_ready (rs := [5, 6]) (by kernel_rfl) (by simp) ?_
        refine AllReadyH.cons (o := ?_) ?_ (fun K hK => ?_) ?_
        rotate_left 1
        · (simp only [List.getElem?_toArray, List.getElem?_cons_zero, List.getElem?_cons_succ]; try rfl)
        · go_simp
          refine (specSelMove_any a0 m0 a1 m1 mA l1 mc a2 _ hn91).mono ?_
          rintro e my3 ⟨rfl, hb⟩
          rw [HX.out, HY.out]
          have zY3 := mH2.out.size
          have mH3 := Lib.hid (below_then mH2.out hb)
          clear hb
          go_wp2_with fail
          refine hK.out _ _ (by exact ⟨(HS.out.below mH3.out).cell 0, (HS.out.below mH3.out).cell 1, (HE.out.below mH3.out).cell 0, (HE.out.below mH3.out).cell 1, (HE.out.below mH3.out).cell 2⟩) (fun hHeld => ?_)
          clear hK K
          (try simp only [Act.put, List.setIfInBounds_toArray, List.set_cons_zero, List.set_cons_succ])
          refine wpAnyH_ready (rs := [6]) (by kernel_rfl) (by simp) ?_
          refine AllReadyH.cons (o := ?_) ?_ (fun K hK => ?_) AllReadyH.nil
          rotate_left 1
          · (simp only [List.getElem?_toArray, List.getElem?_cons_zero, List.getElem?_cons_succ]; try rfl)
          have zA := mH3.out.size
          have mH4 := Lib.hid (mH3.out.alloc mH3.out.size (.cells #[.int .i64 0, .int .i64 0] 50))
          go_simp
          refine hK.out _ _ (by exact ⟨(HS.out.below mH4.out).cell 0, (HS.out.below mH4.out).cell 1, (HE.out.below mH4.out).cell 0, (HE.out.below mH4.out).cell 1, (HE.out.below mH4.out).cell 2⟩) (fun hHeld => ?_)
          clear hK K
          (try simp only [Act.put, List.setIfInBounds_toArray, List.set_cons_zero, List.set_cons_succ])
          refine wpAnyH_ready (rs := [7]) (by kernel_rfl) (by simp) ?_
          refine AllReadyH.cons (o := ?_) ?_ (fun K hK => ?_) AllReadyH.nil
          rotate_left 1
          · (simp only [List.getElem?_toArray, List.getElem?_cons_zero, List.getElem?_cons_succ]; try rfl)
          have HF := Lib.hid (mH3.out.alloc mH3.out.size (.cells #[.int .i64 x, .int .i64 y] 50))
          go_simp
          refine hK.out _ _ (by exact ⟨(HS.out.below HF.out).cell 0, (HS.out.below HF.out).cell 1, (HE.out.below HF.out).cell 0, (HE.out.below HF.out).cell 1, (HE.out.below HF.out).cell 2⟩) (fun hHeld => ?_)
          clear hK K
          (try simp only [Act.put, List.setIfInBounds_toArray, List.set_cons_zero, List.set_cons_succ])
          refine wpAnyH_done (by kernel_rfl) ?_ _
          refine NoPanic.normal ?_
          go_wp2_with fail
          go_meet
          have BF := Lib.hid (Blk.new my3 #[.int .i64 x, .int .i64 y] 50)
          have zF := mH3.out.size
          exact ⟨my3.heap.size, rfl, BF.out, by omega, HF.out⟩
        refine AllReadyH.cons (o := ?_) ?_ (fun K hK => ?_) AllReadyH.nil
        rotate_left 1
        · (simp only [List.getElem?_toArray, List.getElem?_cons_zero, List.getElem?_cons_succ]; try rfl)
        have zA := mH2.out.size
        have mH3 := Lib.hid (mH2.out.alloc mH2.out.size (.cells #[.int .i64 0, .int .i64 0] 50))
        have BX := Lib.hid (Blk.new (my2) #[.int .i64 0, .int .i64 0] 50)
        go_simp
        refine hK.out _ _ (by exact ⟨(HS.out.below mH3.out).cell 0, (HS.out.below mH3.out).cell 1, (HE.out.below mH3.out).cell 0, (HE.out.below mH3.out).cell 1, (HE.out.below mH3.out).cell 2⟩) (fun hHeld => ?_)
        clear hK K
        (try simp only [Act.put, List.setIfInBounds_toArray, List.set_cons_zero, List.set_cons_succ])
        refine wpAnyH_ready (rs := [5]) (by kernel_rfl) (by simp) ?_
        refine AllReadyH.cons (o := ?_) ?_ (fun K hK => ?_) AllReadyH.nil
        rotate_left 1
        · (simp only [List.getElem?_toArray, List.getElem?_cons_zero, List.getElem?_cons_succ]; try rfl)
        go_simp
        refine (specSelMove_any a0 m0 a1 m1 mA l1 mc a2 _ hn91).mono ?_
        rintro e my3 ⟨rfl, hb⟩
        rw [HX.out, HY.out]
        have zY4 := mH3.out.size
        have mH4 := Lib.hid (below_then mH3.out hb)
        have BX := Lib.hid (BX.out.below hb)
        clear hb
        go_wp2_with fail
        refine hK.out _ _ (by exact ⟨(HS.out.below mH4.out).cell 0, (HS.out.below mH4.out).cell 1, (HE.out.below mH4.out).cell 0, (HE.out.below mH4.out).cell 1, (HE.out.below mH4.out).cell 2⟩) (fun hHeld => ?_)
        clear hK K
        (try simp only [Act.put, List.setIfInBounds_toArray, List.set_cons_zero, List.set_cons_succ])
        have zB := BX.out.lt
        have nb0 := HS.out.lt
        have nb1 := HE.out.lt
        have g0 := BX.out.cell 0
        have f0 := BX.out.frozen 0
        have g1 := BX.out.cell 1
        have f1 := BX.out.frozen 1
        have zz9 : s1.heap.size ≤ my2.heap.size := by first | exact Nat.le_refl _ | omega
        refine wpAnyH_ready (rs := [7]) (by kernel_rfl) (by simp) ?_
        refine AllReadyH.cons (o := ?_) ?_ (fun K hK => ?_) AllReadyH.nil
        rotate_left 1
        · (simp only [List.getElem?_toArray, List.getElem?_cons_zero, List.getElem?_cons_succ]; try rfl)
        go_simp
        refine hK.out _ _ (by exact ⟨(((HS.out.below mH4.out).setFar9 (by omega) 0 (.int .i64 x)).setFar9 (by omega) 1 (.int .i64 y)).cell 0, (((HS.out.below mH4.out).setFar9 (by omega) 0 (.int .i64 x)).setFar9 (by omega) 1 (.int .i64 y)).cell 1, (((HE.out.below mH4.out).setFar9 (by omega) 0 (.int .i64 x)).setFar9 (by omega) 1 (.int .i64 y)).cell 0, (((HE.out.below mH4.out).setFar9 (by omega) 0 (.int .i64 x)).setFar9 (by omega) 1 (.int .i64 y)).cell 1, (((HE.out.below mH4.out).setFar9 (by omega) 0 (.int .i64 x)).setFar9 (by omega) 1 (.int .i64 y)).cell 2⟩) (fun hHeld => ?_)
        clear hK K
        (try simp only [Act.put, List.setIfInBounds_toArray, List.set_cons_zero, List.set_cons_succ])
        refine wpAnyH_done (by kernel_rfl) ?_ _
        refine NoPanic.normal ?_
        go_wp2_with fail
        go_meet
        have BF : Hid (Blk (((my3.setCell ⟨my2.heap.size, 0, none⟩ (.int .i64 x)).setCell ⟨my2.heap.size, 1, none⟩ (.int .i64 y))) my2.heap.size #[.int .i64 x, .int .i64 y] 50) := Lib.hid (by simpa using ((BX.out.set 0 (.int .i64 x)).set 1 (.int .i64 y)))
        have HF : Hid (Below s1.heap.size s1 (((my3.setCell ⟨my2.heap.size, 0, none⟩ (.int .i64 x)).setCell ⟨my2.heap.size, 1, none⟩ (.int .i64 y)))) := Lib.hid ((mH4.out.setCell (p := ⟨my2.heap.size, 0, none⟩) (by omega) (.int .i64 x)).setCell (p := ⟨my2.heap.size, 1, none⟩) (by omega) (.int .i64 y))
        exact ⟨my2.heap.size, rfl, BF.out, by omega, HF.out⟩
      refine AllReadyH.cons (o := ?_) ?_ (fun K hK => ?_) AllReadyH.nil
      rotate_left 1
      · (simp only [List.getElem?_toArray, List.getElem?_cons_zero, List.getElem?_cons_succ]; try rfl)
      have zA := mH1.out.size
      have mH2 := Lib.hid (mH1.out.alloc mH1.out.size (.cells #[.int .i64 0, .int .i64 0] 50))
      have BX := Lib.hid (Blk.new (my1) #[.int .i64 0, .int .i64 0] 50)
      go_simp
      refine hK.out _ _ (by exact ⟨(HS.out.below mH2.out).cell 0, (HS.out.below mH2.out).cell 1, (HE.out.below mH2.out).cell 0, (HE.out.below mH2.out).cell 1, (HE.out.below mH2.out).cell 2⟩) (fun hHeld => ?_)
      clear hK K
      (try simp only [Act.put, List.setIfInBounds_toArray, List.set_cons_zero, List.set_cons_succ])
      refine wpAnyH_ready (rs := [3]) (by kernel_rfl) (by simp) ?_
      refine AllReadyH.cons (o := ?_) ?_ (fun K hK => ?_) AllReadyH.nil
      rotate_left 1
      · (simp only [List.getElem?_toArray, List.getElem?_cons_zero, List.getElem?_cons_succ]; try rfl)
      go_simp
      refine (toEdit_any a1 m1 A1 l1 c1 _ hl1 (by exact mL.out.below mH2.out)).mono ?_
      rintro e my2 ⟨v, rfl, hown, hb⟩
      obtain ⟨mA, mc, rfl, _, _, hBv⟩ := hown.form
      clear hown hBv
      have zY3 := mH2.out.size
      have mH3 := Lib.hid (below_then mH2.out hb)
      have BX := Lib.hid (BX.out.below hb)
      clear hb
      go_wp2_with fail
      refine hK.out _ _ (by exact ⟨(HS.out.below mH3.out).cell 0, (HS.out.below mH3.out).cell 1, (HE.out.below mH3.out).cell 0, (HE.out.below mH3.out).cell 1, (HE.out.below mH3.out).cell 2⟩) (fun hHeld => ?_)
      clear hK K
      (try simp only [Act.put, List.setIfInBounds_toArray, List.set_cons_zero, List.set_cons_succ])
      refine wpAnyH_ready (rs := [5]) (by kernel_rfl) (by simp) ?_
      refine AllReadyH.cons (o := ?_) ?_ (fun K hK => ?_) AllReadyH.nil
      rotate_left 1
      · (simp only [List.getElem?_toArray, List.getElem?_cons_zero, List.getElem?_cons_succ]; try rfl)
      go_simp
      refine (specSelMove_any a0 m0 a1 m1 mA l1 mc a2 _ hn91).mono ?_
      rintro e my3 ⟨rfl, hb⟩
      rw [HX.out, HY.out]
      have zY4 := mH3.out.size
      have mH4 := Lib.hid (below_then mH3.out hb)
      have BX := Lib.hid (BX.out.below hb)
      clear hb
      go_wp2_with fail
      refine hK.out _ _ (by exact ⟨(HS.out.below mH4.out).cell 0, (HS.out.below mH4.out).cell 1, (HE.out.below mH4.out).cell 0, (HE.out.below mH4.out).cell 1, (HE.out.below mH4.out).cell 2⟩) (fun hHeld => ?_)
      clear hK K
      (try simp only [Act.put, List.setIfInBounds_toArray, List.set_cons_zero, List.set_cons_succ])
      have zB := BX.out.lt
      have nb0 := HS.out.lt
      have nb1 := HE.out.lt
      have g0 := BX.out.cell 0
      have f0 := BX.out.frozen 0
      have g1 := BX.out.cell 1
      have f1 := BX.out.frozen 1
      have zz9 : s1.heap.size ≤ my1.heap.size := by first | exact Nat.le_refl _ | omega
      refine wpAnyH_ready (rs := [7]) (by kernel_rfl) (by simp) ?_
      refine AllReadyH.cons (o := ?_) ?_ (fun K hK => ?_) AllReadyH.nil
      rotate_left 1
      · (simp only [List.getElem?_toArray, List.getElem?_cons_zero, List.getElem?_cons_succ]; try rfl)
      go_simp
      refine hK.out _ _ (by exact ⟨(((HS.out.below mH4.out).setFar9 (by omega) 0 (.int .i64 x)).setFar9 (by omega) 1 (.int .i64 y)).cell 0, (((HS.out.below mH4.out).setFar9 (by omega) 0 (.int .i64 x)).setFar9 (by omega) 1 (.int .i64 y)).cell 1, (((HE.out.below mH4.out).setFar9 (by omega) 0 (.int .i64 x)).setFar9 (by omega) 1 (.int .i64 y)).cell 0, (((HE.out.below mH4.out).setFar9 (by omega) 0 (.int .i64 x)).setFar9 (by omega) 1 (.int .i64 y)).cell 1, (((HE.out.below mH4.out).setFar9 (by omega) 0 (.int .i64 x)).setFar9 (by omega) 1 (.int .i64 y)).cell 2⟩) (fun hHeld => ?_)
      clear hK K
      (try simp only [Act.put, List.setIfInBounds_toArray, List.set_cons_zero, List.set_cons_succ])
      refine wpAnyH_done (by kernel_rfl) ?_ _
      refine NoPanic.normal ?_
      go_wp2_with fail
      go_meet
      have BF : Hid (Blk (((my3.setCell ⟨my1.heap.size, 0, none⟩ (.int .i64 x)).setCell ⟨my1.heap.size, 1, none⟩ (.int .i64 y))) my1.heap.size #[.int .i64 x, .int .i64 y] 50) := Lib.hid (by simpa using ((BX.out.set 0 (.int .i64 x)).set 1 (.int .i64 y)))
      have HF : Hid (Below s1.heap.size s1 (((my3.setCell ⟨my1.heap.size, 0, none⟩ (.int .i64 x)).setCell ⟨my1.heap.size, 1, none⟩ (.int .i64 y)))) := Lib.hid ((mH4.out.setCell (p := ⟨my1.heap.size, 0, none⟩) (by omega) (.int .i64 x)).setCell (p := ⟨my1.heap.size, 1, none⟩) (by omega) (.int .i64 y))
      exact ⟨my1.heap.size, rfl, BF.out, by omega, HF.out⟩
    refine AllReadyH.cons (o := ?_) ?_ (fun K hK => ?_) AllReadyH.nil
    rotate_left 1
    · (simp only [List.getElem?_toArray, List.getElem?_cons_zero, List.getElem?_cons_succ]; try rfl)
    have zA := mH0.out.size
    have mH1 := Lib.hid (mH0.out.alloc mH0.out.size (.cells #[.int .i64 0, .int .i64 0] 50))
    have BX := Lib.hid (Blk.new (s1.drew) #[.int .i64 0, .int .i64 0] 50)
    have BX := Lib.hid (show Blk (s1.drew.alloc (.cells #[.int .i64 0, .int .i64 0] 50)) s1.heap.size #[.int .i64 0, .int .i64 0] 50 from by have h9 := BX.out; rw [World.size_drew] at h9; exact h9)
    go_simp
    refine hK.out _ _ (by exact ⟨(HS.out.below mH1.out).cell 0, (HS.out.below mH1.out).cell 1, (HE.out.below mH1.out).cell 0, (HE.out.below mH1.out).cell 1, (HE.out.below mH1.out).cell 2⟩) (fun hHeld => ?_)
    clear hK K
    (try simp only [Act.put, List.setIfInBounds_toArray, List.set_cons_zero, List.set_cons_succ])
    refine wpAnyH_ready (rs := [1]) (by kernel_rfl) (by simp) ?_
    refine AllReadyH.cons (o := ?_) ?_ (fun K hK => ?_) AllReadyH.nil
    rotate_left 1
    · (simp only [List.getElem?_toArray, List.getElem?_cons_zero, List.getElem?_cons_succ]; try rfl)
    go_simp
    refine (toSel_any a0 m0 _).mono ?_
    rintro e my1 ⟨rfl, hb⟩
    have zY2 := mH1.out.size
    have mH2 := Lib.hid (below_then mH1.out hb)
    have BX := Lib.hid (BX.out.below hb)
    clear hb
    go_wp2_with fail
    refine hK.out _ _ (by exact ⟨(HS.out.below mH2.out).cell 0, (HS.out.below mH2.out).cell 1, (HE.out.below mH2.out).cell 0, (HE.out.below mH2.out).cell 1, (HE.out.below mH2.out).cell 2⟩) (fun hHeld => ?_)
    clear hK K
    (try simp only [Act.put, List.setIfInBounds_toArray, List.set_cons_zero, List.set_cons_succ])
    refine wpAnyH_ready (rs := [3]) (by kernel_rfl) (by simp) ?_
    refine AllReadyH.cons (o := ?_) ?_ (fun K hK => ?_) AllReadyH.nil
    rotate_left 1
    · (simp only [List.getElem?_toArray, List.getElem?_cons_zero, List.getElem?_cons_succ]; try rfl)
    go_simp
    refine (toEdit_any a1 m1 A1 l1 c1 _ hl1 (by exact mL.out.below mH2.out)).mono ?_
    rintro e my2 ⟨v, rfl, hown, hb⟩
    obtain ⟨mA, mc, rfl, _, _, hBv⟩ := hown.form
    clear hown hBv
    have zY3 := mH2.out.size
    have mH3 := Lib.hid (below_then mH2.out hb)
    have BX := Lib.hid (BX.out.below hb)
    clear hb
    go_wp2_with fail
    refine hK.out _ _ (by exact ⟨(HS.out.below mH3.out).cell 0, (HS.out.below mH3.out).cell 1, (HE.out.below mH3.out).cell 0, (HE.out.below mH3.out).cell 1, (HE.out.below mH3.out).cell 2⟩) (fun hHeld => ?_)
    clear hK K
    (try simp only [Act.put, List.setIfInBounds_toArray, List.set_cons_zero, List.set_cons_succ])
    refine wpAnyH_ready (rs := [5]) (by kernel_rfl) (by simp) ?_
    refine AllReadyH.cons (o := ?_) ?_ (fun K hK => ?_) AllReadyH.nil
    rotate_left 1
    · (simp only [List.getElem?_toArray, List.getElem?_cons_zero, List.getElem?_cons_succ]; try rfl)
    go_simp
    refine (specSelMove_any a0 m0 a1 m1 mA l1 mc a2 _ hn91).mono ?_
    rintro e my3 ⟨rfl, hb⟩
    rw [HX.out, HY.out]
    have zY4 := mH3.out.size
    have mH4 := Lib.hid (below_then mH3.out hb)
    have BX := Lib.hid (BX.out.below hb)
    clear hb
    go_wp2_with fail
    refine hK.out _ _ (by exact ⟨(HS.out.below mH4.out).cell 0, (HS.out.below mH4.out).cell 1, (HE.out.below mH4.out).cell 0, (HE.out.below mH4.out).cell 1, (HE.out.below mH4.out).cell 2⟩) (fun hHeld => ?_)
    clear hK K
    (try simp only [Act.put, List.setIfInBounds_toArray, List.set_cons_zero, List.set_cons_succ])
    have zB := BX.out.lt
    have nb0 := HS.out.lt
    have nb1 := HE.out.lt
    have g0 := BX.out.cell 0
    have f0 := BX.out.frozen 0
    have g1 := BX.out.cell 1
    have f1 := BX.out.frozen 1
    have zz9 : s1.heap.size ≤ s1.heap.size := by first | exact Nat.le_refl _ | omega
    refine wpAnyH_ready (rs := [7]) (by kernel_rfl) (by simp) ?_
    refine AllReadyH.cons (o := ?_) ?_ (fun K hK => ?_) AllReadyH.nil
    rotate_left 1
    · (simp only [List.getElem?_toArray, List.getElem?_cons_zero, List.getElem?_cons_succ]; try rfl)
    go_simp
    refine hK.out _ _ (by exact ⟨(((HS.out.below mH4.out).setFar9 (by omega) 0 (.int .i64 x)).setFar9 (by omega) 1 (.int .i64 y)).cell 0, (((HS.out.below mH4.out).setFar9 (by omega) 0 (.int .i64 x)).setFar9 (by omega) 1 (.int .i64 y)).cell 1, (((HE.out.below mH4.out).setFar9 (by omega) 0 (.int .i64 x)).setFar9 (by omega) 1 (.int .i64 y)).cell 0, (((HE.out.below mH4.out).setFar9 (by omega) 0 (.int .i64 x)).setFar9 (by omega) 1 (.int .i64 y)).cell 1, (((HE.out.below mH4.out).setFar9 (by omega) 0 (.int .i64 x)).setFar9 (by omega) 1 (.int .i64 y)).cell 2⟩) (fun hHeld => ?_)
    clear hK K
    (try simp only [Act.put, List.setIfInBounds_toArray, List.set_cons_zero, List.set_cons_succ])
    refine wpAnyH_done (by kernel_rfl) ?_ _
    refine NoPanic.normal ?_
    go_wp2_with fail
    go_meet
    have BF : Hid (Blk (((my3.setCell ⟨s1.heap.size, 0, none⟩ (.int .i64 x)).setCell ⟨s1.heap.size, 1, none⟩ (.int .i64 y))) s1.heap.size #[.int .i64 x, .int .i64 y] 50) := Lib.hid (by simpa using ((BX.out.set 0 (.int .i64 x)).set 1 (.int .i64 y)))
    have HF : Hid (Below s1.heap.size s1 (((my3.setCell ⟨s1.heap.size, 0, none⟩ (.int .i64 x)).setCell ⟨s1.heap.size, 1, none⟩ (.int .i64 y)))) := Lib.hid ((mH4.out.setCell (p := ⟨s1.heap.size, 0, none⟩) (by omega) (.int .i64 x)).setCell (p := ⟨s1.heap.size, 1, none⟩) (by omega) (.int .i64 y))
    exact ⟨s1.heap.size, rfl, BF.out, by omega, HF.out⟩
  case rest =>
    obtain ⟨ob, rfl, hOB, zob, hb⟩ := hcut
    have zw := hb.size
    have HS := Lib.hid (HS.out.below hb)
    have HE := Lib.hid (HE.out.below hb)
    have HB := Lib.hid (below_then HB.out hb)
    have OB := Lib.hid hOB
    clear hOB hb s0 s1' e0 e1 e2 mL
    have e0 := HE.out.cell 0
    have e1 := HE.out.cell 1
    have e2 := HE.out.cell 2
    have HL := Lib.hid (hL1.below HB.out)
    go_wp2_with fail
    refine (toEdit_any a1 m1 A1 l1 c1 _ hl1 (by exact HL.out)).mono ?_
    rintro e x1 ⟨v, rfl, hown, hb⟩
    obtain ⟨xA, xc, rfl, _, _, _⟩ := hown.form
    have hal := (Below.refl x1.heap.size x1).alloc (Nat.le_refl _) (.cells #[.int .i64 a1, .int .i64 m1, .slice xA l1.length xc] 27)
    have X1 := Lib.hid (own_bs9 (hown.below hal))
    have XB := Lib.hid (Blk.new x1 #[.int .i64 a1, .int .i64 m1, .slice xA l1.length xc] 27)
    have hb2 := below_then hb hal
    have HS := Lib.hid (HS.out.below hb2)
    have HE := Lib.hid (HE.out.below hb2)
    have OB := Lib.hid (OB.out.below hb2)
    have HB := Lib.hid (below_then HB.out hb2)
    clear hown hb hb2 hal e0 e1 e2 HL
    go_wp2_with fail
    generalize x1.alloc (.cells #[.int .i64 a1, .int .i64 m1, .slice xA l1.length xc] 27) = v1 at *
    have s0 := HS.out.cell 0
    have s1' := HS.out.cell 1
    have e0 := XB.out.cell 0
    have e1 := XB.out.cell 1
    have e2 := XB.out.cell 2
    go_upto_region 7 with fail
    go_cut [10] (fun p wx => ∃ (b : Nat), p = .pointer (some ⟨b, 0, none⟩) ∧ Blk wx b #[.int .i64 x, .int .i64 y] 50 ∧ v1.heap.size ≤ b ∧ Below v1.heap.size v1 wx)
    case first =>
      have nH0 : Hid (Below v1.heap.size v1 v1.drew) := Lib.hid (Below.refl v1.heap.size v1).drew
      have nz0 : v1.drew.heap.size = v1.heap.size := World.size_drew v1
      refine wp_region_noPanic ?_
      refine wp_region_held_drew (S := (fun V => (V).cell? ⟨w.heap.size, 0, none⟩ = some (.int .i64 a0) ∧ (V).cell? ⟨w.heap.size, 1, none⟩ = some (.int .i64 m0) ∧ (V).cell? ⟨x1.heap.size, 0, none⟩ = some (.int .i64 a1) ∧ (V).cell? ⟨x1.heap.size, 1, none⟩ = some (.int .i64 m1) ∧ (V).cell? ⟨x1.heap.size, 2, none⟩ = some (.slice xA l1.length xc))) (by kernel_rfl) (by exact ⟨s0, s1', e0, e1, e2⟩) (fun hHeld => ?_)
      refine wpAnyH_take (i := 0) (oi := ?_) (v := ?_) ?_ ?_ ?_ ?_ ?_ ?_ (by exact hHeld) ?_
      rotate_left 2
      · (simp only [List.getElem?_toArray, List.getElem?_cons_zero]; try rfl)
      · kernel_rfl
      · kernel_rfl
      · kernel_rfl
      · exact fun _ _ _ h => h
      · refine Or.inl ⟨by rfl, ?_⟩
        (intro V hSV; (try dsimp only at hSV); obtain ⟨q0, q1, q2, q3, q4⟩ := hSV; go_simp; try with_reducible rfl)
      (try simp only [Act.put, List.setIfInBounds_toArray, List.set_cons_zero, List.set_cons_succ])
      refine wpAnyH_take (i := 2) (oi := ?_) (v := ?_) ?_ ?_ ?_ ?_ ?_ ?_ (by exact hHeld) ?_
      rotate_left 2
      · (simp only [List.getElem?_toArray, List.getElem?_cons_zero, List.getElem?_cons_succ]; try rfl)
      · kernel_rfl
      · kernel_rfl
      · kernel_rfl
      · exact fun _ _ _ h => h
      · refine Or.inl ⟨by rfl, ?_⟩
        (intro V hSV; (try dsimp only at hSV); obtain ⟨q0, q1, q2, q3, q4⟩ := hSV; go_simp; try with_reducible rfl)
      (try simp only [Act.put, List.setIfInBounds_toArray, List.set_cons_zero, List.set_cons_succ])
      refine wpAnyH_take (i := 3) (oi := ?_) (v := ?_) ?_ ?_ ?_ ?_ ?_ ?_ (by exact hHeld) ?_
      rotate_left 2
      · (simp only [List.getElem?_toArray, List.getElem?_cons_zero, List.getElem?_cons_succ]; try rfl)
      · kernel_rfl
      · kernel_rfl
      · kernel_rfl
      · exact fun _ _ _ h => h
      · refine Or.inl ⟨by rfl, ?_⟩
        (intro V hSV; (try dsimp only at hSV); obtain ⟨q0, q1, q2, q3, q4⟩ := hSV; go_simp; try with_reducible rfl)
      (try simp only [Act.put, List.setIfInBounds_toArray, List.set_cons_zero, List.set_cons_succ])
      refine wpAnyH_ready (rs := [1, 5]) (by kernel_rfl) (by simp) ?_
      refine AllReadyH.cons (o := ?_) ?_ (fun K hK => ?_) ?_
      rotate_left 1
      · (simp only [List.getElem?_toArray, List.getElem?_cons_zero, List.getElem?_cons_succ]; try rfl)
      · go_simp
        refine (toSel_any a0 m0 _).mono ?_
        rintro e ny1 ⟨rfl, hb⟩
        have zY1 := nH0.out.size
        have nH1 := Lib.hid (below_then nH0.out hb)
        clear hb
        go_wp2_with fail
        refine hK.out _ _ (by exact ⟨(HS.out.below nH1.out).cell 0, (HS.out.below nH1.out).cell 1, (XB.out.below nH1.out).cell 0, (XB.out.below nH1.out).cell 1, (XB.out.below nH1.out).cell 2⟩) (fun hHeld => ?_)
        clear hK K
        (try simp only [Act.put, List.setIfInBounds_toArray, List.set_cons_zero, List.set_cons_succ])
        refine wpAnyH_ready (rs := [4, 5]) (by kernel_rfl) (by simp) ?_
        refine AllReadyH.cons (o := ?_) ?_ (fun K hK => ?_) ?_
        rotate_left 1
        · (simp only [List.getElem?_toArray, List.getElem?_cons_zero, List.getElem?_cons_succ]; try rfl)
        · go_simp
          refine (implSelMove_any a0 m0 a1 m1 xA l1 xc a2 _ hn91).mono ?_
          rintro e ny2 ⟨rfl, hb⟩
          rw [HX.out, HY.out]
          have zY2 := nH1.out.size
          have nH2 := Lib.hid (below_then nH1.out hb)
          clear hb
          go_wp2_with fail
          refine hK.out _ _ (by exact ⟨(HS.out.below nH2.out).cell 0, (HS.out.below nH2.out).cell 1, (XB.out.below nH2.out).cell 0, (XB.out.below nH2.out).cell 1, (XB.out.below nH2.out).cell 2⟩) (fun hHeld => ?_)
          clear hK K
          (try simp only [Act.put, List.setIfInBounds_toArray, List.set_cons_zero, List.set_cons_succ])
          refine wpAnyH_ready (rs := [5]) (by kernel_rfl) (by simp) ?_
          refine AllReadyH.cons (o := ?_) ?_ (fun K hK => ?_) AllReadyH.nil
          rotate_left 1
          · (simp only [List.getElem?_toArray, List.getElem?_cons_zero, List.getElem?_cons_succ]; try rfl)
          have zA := nH2.out.size
          have nH3 := Lib.hid (nH2.out.alloc nH2.out.size (.cells #[.int .i64 0, .int .i64 0] 50))
          go_simp
          refine hK.out _ _ (by exact ⟨(HS.out.below nH3.out).cell 0, (HS.out.below nH3.out).cell 1, (XB.out.below nH3.out).cell 0, (XB.out.below nH3.out).cell 1, (XB.out.below nH3.out).cell 2⟩) (fun hHeld => ?_)
          clear hK K
          (try simp only [Act.put, List.setIfInBounds_toArray, List.set_cons_zero, List.set_cons_succ])
          refine wpAnyH_ready (rs := [6]) (by kernel_rfl) (by simp) ?_
          refine AllReadyH.cons (o := ?_) ?_ (fun K hK => ?_) AllReadyH.nil
          rotate_left 1
          · (simp only [List.getElem?_toArray, List.getElem?_cons_zero, List.getElem?_cons_succ]; try rfl)
          have HF := Lib.hid (nH2.out.alloc nH2.out.size (.cells #[.int .i64 x, .int .i64 y] 50))
          go_simp
          refine hK.out _ _ (by exact ⟨(HS.out.below HF.out).cell 0, (HS.out.below HF.out).cell 1, (XB.out.below HF.out).cell 0, (XB.out.below HF.out).cell 1, (XB.out.below HF.out).cell 2⟩) (fun hHeld => ?_)
          clear hK K
          (try simp only [Act.put, List.setIfInBounds_toArray, List.set_cons_zero, List.set_cons_succ])
          refine wpAnyH_done (by kernel_rfl) ?_ _
          refine NoPanic.normal ?_
          go_wp2_with fail
          go_meet
          have BF := Lib.hid (Blk.new ny2 #[.int .i64 x, .int .i64 y] 50)
          have zF := nH2.out.size
          exact ⟨ny2.heap.size, rfl, BF.out, by omega, HF.out⟩
        refine AllReadyH.cons (o := ?_) ?_ (fun K hK => ?_) AllReadyH.nil
        rotate_left 1
        · (simp only [List.getElem?_toArray, List.getElem?_cons_zero, List.getElem?_cons_succ]; try rfl)
        have zA := nH1.out.size
        have nH2 := Lib.hid (nH1.out.alloc nH1.out.size (.cells #[.int .i64 0, .int .i64 0] 50))
        have BX := Lib.hid (Blk.new (ny1) #[.int .i64 0, .int .i64 0] 50)
        go_simp
        refine hK.out _ _ (by exact ⟨(HS.out.below nH2.out).cell 0, (HS.out.below nH2.out).cell 1, (XB.out.below nH2.out).cell 0, (XB.out.below nH2.out).cell 1, (XB.out.below nH2.out).cell 2⟩) (fun hHeld => ?_)
        clear hK K
        (try simp only [Act.put, List.setIfInBounds_toArray, List.set_cons_zero, List.set_cons_succ])
        refine wpAnyH_ready (rs := [4]) (by kernel_rfl) (by simp) ?_
        refine AllReadyH.cons (o := ?_) ?_ (fun K hK => ?_) AllReadyH.nil
        rotate_left 1
        · (simp only [List.getElem?_toArray, List.getElem?_cons_zero, List.getElem?_cons_succ]; try rfl)
        go_simp
        refine (implSelMove_any a0 m0 a1 m1 xA l1 xc a2 _ hn91).mono ?_
        rintro e ny2 ⟨rfl, hb⟩
        rw [HX.out, HY.out]
        have zY3 := nH2.out.size
        have nH3 := Lib.hid (below_then nH2.out hb)
        have BX := Lib.hid (BX.out.below hb)
        clear hb
        go_wp2_with fail
        refine hK.out _ _ (by exact ⟨(HS.out.below nH3.out).cell 0, (HS.out.below nH3.out).cell 1, (XB.out.below nH3.out).cell 0, (XB.out.below nH3.out).cell 1, (XB.out.below nH3.out).cell 2⟩) (fun hHeld => ?_)
        clear hK K
        (try simp only [Act.put, List.setIfInBounds_toArray, List.set_cons_zero, List.set_cons_succ])
        have zB := BX.out.lt
        have nb0 := HS.out.lt
        have nb1 := XB.out.lt
        have g0 := BX.out.cell 0
        have f0 := BX.out.frozen 0
        have g1 := BX.out.cell 1
        have f1 := BX.out.frozen 1
        have zz9 : v1.heap.size ≤ ny1.heap.size := by first | exact Nat.le_refl _ | omega
        refine wpAnyH_ready (rs := [6]) (by kernel_rfl) (by simp) ?_
        refine AllReadyH.cons (o := ?_) ?_ (fun K hK => ?_) AllReadyH.nil
        rotate_left 1
        · (simp only [List.getElem?_toArray, List.getElem?_cons_zero, List.getElem?_cons_succ]; try rfl)
        go_simp
        refine hK.out _ _ (by exact ⟨(((HS.out.below nH3.out).setFar9 (by omega) 0 (.int .i64 x)).setFar9 (by omega) 1 (.int .i64 y)).cell 0, (((HS.out.below nH3.out).setFar9 (by omega) 0 (.int .i64 x)).setFar9 (by omega) 1 (.int .i64 y)).cell 1, (((XB.out.below nH3.out).setFar9 (by omega) 0 (.int .i64 x)).setFar9 (by omega) 1 (.int .i64 y)).cell 0, (((XB.out.below nH3.out).setFar9 (by omega) 0 (.int .i64 x)).setFar9 (by omega) 1 (.int .i64 y)).cell 1, (((XB.out.below nH3.out).setFar9 (by omega) 0 (.int .i64 x)).setFar9 (by omega) 1 (.int .i64 y)).cell 2⟩) (fun hHeld => ?_)
        clear hK K
        (try simp only [Act.put, List.setIfInBounds_toArray, List.set_cons_zero, List.set_cons_succ])
        refine wpAnyH_done (by kernel_rfl) ?_ _
        refine NoPanic.normal ?_
        go_wp2_with fail
        go_meet
        have BF : Hid (Blk (((ny2.setCell ⟨ny1.heap.size, 0, none⟩ (.int .i64 x)).setCell ⟨ny1.heap.size, 1, none⟩ (.int .i64 y))) ny1.heap.size #[.int .i64 x, .int .i64 y] 50) := Lib.hid (by simpa using ((BX.out.set 0 (.int .i64 x)).set 1 (.int .i64 y)))
        have HF : Hid (Below v1.heap.size v1 (((ny2.setCell ⟨ny1.heap.size, 0, none⟩ (.int .i64 x)).setCell ⟨ny1.heap.size, 1, none⟩ (.int .i64 y)))) := Lib.hid ((nH3.out.setCell (p := ⟨ny1.heap.size, 0, none⟩) (by omega) (.int .i64 x)).setCell (p := ⟨ny1.heap.size, 1, none⟩) (by omega) (.int .i64 y))
        exact ⟨ny1.heap.size, rfl, BF.out, by omega, HF.out⟩
      refine AllReadyH.cons (o := ?_) ?_ (fun K hK => ?_) AllReadyH.nil
      rotate_left 1
      · (simp only [List.getElem?_toArray, List.getElem?_cons_zero, List.getElem?_cons_succ]; try rfl)
      have zA := nH0.out.size
      have nH1 := Lib.hid (nH0.out.alloc nH0.out.size (.cells #[.int .i64 0, .int .i64 0] 50))
      have BX := Lib.hid (Blk.new (v1.drew) #[.int .i64 0, .int .i64 0] 50)
      have BX := Lib.hid (show Blk (v1.drew.alloc (.cells #[.int .i64 0, .int .i64 0] 50)) v1.heap.size #[.int .i64 0, .int .i64 0] 50 from by have h9 := BX.out; rw [World.size_drew] at h9; exact h9)
      go_simp
      refine hK.out _ _ (by exact ⟨(HS.out.below nH1.out).cell 0, (HS.out.below nH1.out).cell 1, (XB.out.below nH1.out).cell 0, (XB.out.below nH1.out).cell 1, (XB.out.below nH1.out).cell 2⟩) (fun hHeld => ?_)
      clear hK K
      (try simp only [Act.put, List.setIfInBounds_toArray, List.set_cons_zero, List.set_cons_succ])
      refine wpAnyH_ready (rs := [1]) (by kernel_rfl) (by simp) ?_
      refine AllReadyH.cons (o := ?_) ?_ (fun K hK => ?_) AllReadyH.nil
      rotate_left 1
      · (simp only [List.getElem?_toArray, List.getElem?_cons_zero, List.getElem?_cons_succ]; try rfl)
      go_simp
      refine (toSel_any a0 m0 _).mono ?_
      rintro e ny1 ⟨rfl, hb⟩
      have zY2 := nH1.out.size
      have nH2 := Lib.hid (below_then nH1.out hb)
      have BX := Lib.hid (BX.out.below hb)
      clear hb
      go_wp2_with fail
      refine hK.out _ _ (by exact ⟨(HS.out.below nH2.out).cell 0, (HS.out.below nH2.out).cell 1, (XB.out.below nH2.out).cell 0, (XB.out.below nH2.out).cell 1, (XB.out.below nH2.out).cell 2⟩) (fun hHeld => ?_)
      clear hK K
      (try simp only [Act.put, List.setIfInBounds_toArray, List.set_cons_zero, List.set_cons_succ])
      refine wpAnyH_ready (rs := [4]) (by kernel_rfl) (by simp) ?_
      refine AllReadyH.cons (o := ?_) ?_ (fun K hK => ?_) AllReadyH.nil
      rotate_left 1
      · (simp only [List.getElem?_toArray, List.getElem?_cons_zero, List.getElem?_cons_succ]; try rfl)
      go_simp
      refine (implSelMove_any a0 m0 a1 m1 xA l1 xc a2 _ hn91).mono ?_
      rintro e ny2 ⟨rfl, hb⟩
      rw [HX.out, HY.out]
      have zY3 := nH2.out.size
      have nH3 := Lib.hid (below_then nH2.out hb)
      have BX := Lib.hid (BX.out.below hb)
      clear hb
      go_wp2_with fail
      refine hK.out _ _ (by exact ⟨(HS.out.below nH3.out).cell 0, (HS.out.below nH3.out).cell 1, (XB.out.below nH3.out).cell 0, (XB.out.below nH3.out).cell 1, (XB.out.below nH3.out).cell 2⟩) (fun hHeld => ?_)
      clear hK K
      (try simp only [Act.put, List.setIfInBounds_toArray, List.set_cons_zero, List.set_cons_succ])
      have zB := BX.out.lt
      have nb0 := HS.out.lt
      have nb1 := XB.out.lt
      have g0 := BX.out.cell 0
      have f0 := BX.out.frozen 0
      have g1 := BX.out.cell 1
      have f1 := BX.out.frozen 1
      have zz9 : v1.heap.size ≤ v1.heap.size := by first | exact Nat.le_refl _ | omega
      refine wpAnyH_ready (rs := [6]) (by kernel_rfl) (by simp) ?_
      refine AllReadyH.cons (o := ?_) ?_ (fun K hK => ?_) AllReadyH.nil
      rotate_left 1
      · (simp only [List.getElem?_toArray, List.getElem?_cons_zero, List.getElem?_cons_succ]; try rfl)
      go_simp
      refine hK.out _ _ (by exact ⟨(((HS.out.below nH3.out).setFar9 (by omega) 0 (.int .i64 x)).setFar9 (by omega) 1 (.int .i64 y)).cell 0, (((HS.out.below nH3.out).setFar9 (by omega) 0 (.int .i64 x)).setFar9 (by omega) 1 (.int .i64 y)).cell 1, (((XB.out.below nH3.out).setFar9 (by omega) 0 (.int .i64 x)).setFar9 (by omega) 1 (.int .i64 y)).cell 0, (((XB.out.below nH3.out).setFar9 (by omega) 0 (.int .i64 x)).setFar9 (by omega) 1 (.int .i64 y)).cell 1, (((XB.out.below nH3.out).setFar9 (by omega) 0 (.int .i64 x)).setFar9 (by omega) 1 (.int .i64 y)).cell 2⟩) (fun hHeld => ?_)
      clear hK K
      (try simp only [Act.put, List.setIfInBounds_toArray, List.set_cons_zero, List.set_cons_succ])
      refine wpAnyH_done (by kernel_rfl) ?_ _
      refine NoPanic.normal ?_
      go_wp2_with fail
      go_meet
      have BF : Hid (Blk (((ny2.setCell ⟨v1.heap.size, 0, none⟩ (.int .i64 x)).setCell ⟨v1.heap.size, 1, none⟩ (.int .i64 y))) v1.heap.size #[.int .i64 x, .int .i64 y] 50) := Lib.hid (by simpa using ((BX.out.set 0 (.int .i64 x)).set 1 (.int .i64 y)))
      have HF : Hid (Below v1.heap.size v1 (((ny2.setCell ⟨v1.heap.size, 0, none⟩ (.int .i64 x)).setCell ⟨v1.heap.size, 1, none⟩ (.int .i64 y)))) := Lib.hid ((nH3.out.setCell (p := ⟨v1.heap.size, 0, none⟩) (by omega) (.int .i64 x)).setCell (p := ⟨v1.heap.size, 1, none⟩) (by omega) (.int .i64 y))
      exact ⟨v1.heap.size, rfl, BF.out, by omega, HF.out⟩
    case rest =>
      obtain ⟨gb, rfl, hGB, zgb, hb⟩ := hcut
      have HS := Lib.hid (HS.out.below hb)
      have HE := Lib.hid (HE.out.below hb)
      have OB := Lib.hid (OB.out.below hb)
      have XB := Lib.hid (XB.out.below hb)
      have HB := Lib.hid (below_then HB.out hb)
      have X1 := Lib.hid (X1.out.below hb)
      have q0 := hGB.cell 0
      have q1 := hGB.cell 1
      have q2 := OB.out.cell 0
      have q3 := OB.out.cell 1
      clear hb s0 s1' e0 e1 e2 hGB
      go_wp2_with fail
      refine (eqSel_any x y _).mono ?_
      rintro e h1 ⟨rfl, hb⟩
      have HE := Lib.hid (HE.out.below hb)
      have XB := Lib.hid (XB.out.below hb)
      have HB := Lib.hid (below_then HB.out hb)
      have X1 := Lib.hid (X1.out.below hb)
      clear hb q0 q1 q2 q3
      have Ka0 := HE.out.cell 0
      have Kb0 := HE.out.cell 1
      have Kc0 := HE.out.cell 2
      have Kd0 := XB.out.cell 0
      have Ke0 := XB.out.cell 1
      have Kf0 := XB.out.cell 2
      have HL := Lib.hid (hL1.below HB.out)
      have sA := HE.out.lt
      have sX := XB.out.lt
      go_wp2_with fail
      go_region_held3 (fun V => V.cell? ⟨w.heap.size + 1, 0, none⟩ = some (.int .i64 a1) ∧ V.cell? ⟨w.heap.size + 1, 1, none⟩ = some (.int .i64 m1) ∧ V.cell? ⟨w.heap.size + 1, 2, none⟩ = some (.slice A1 l1.length c1) ∧ V.cell? ⟨x1.heap.size, 0, none⟩ = some (.int .i64 a1) ∧ V.cell? ⟨x1.heap.size, 1, none⟩ = some (.int .i64 m1) ∧ V.cell? ⟨x1.heap.size, 2, none⟩ = some (.slice xA l1.length xc)) (exact ⟨(by first | exact Ka0 | exact Ka1 | exact Ka2), (by first | exact Kb0 | exact Kb1 | exact Kb2), (by first | exact Kc0 | exact Kc1 | exact Kc2), (by first | exact Kd0 | exact Kd1 | exact Kd2), (by first | exact Ke0 | exact Ke1 | exact Ke2), (by first | exact Kf0 | exact Kf1 | exact Kf2)⟩) (first
        | (go_at_call 16; refine (toEdit_any a1 m1 A1 l1 c1 _ hl1 (by exact HL.out)).mono ?_; rintro e u1 ⟨v, rfl, hown, hb⟩; have hb : Below h1.heap.size h1 u1 := ⟨hb.os, hb.tape, hb.output, hb.size, hb.block⟩; obtain ⟨uA, uc, rfl, _, _, hB⟩ := hown.form; have Ka1 := (hb.cell (p := ⟨w.heap.size + 1, 0, none⟩) sA).trans Ka0; have Kb1 := (hb.cell (p := ⟨w.heap.size + 1, 1, none⟩) sA).trans Kb0; have Kc1 := (hb.cell (p := ⟨w.heap.size + 1, 2, none⟩) sA).trans Kc0; have Kd1 := (hb.cell (p := ⟨x1.heap.size, 0, none⟩) sX).trans Kd0; have Ke1 := (hb.cell (p := ⟨x1.heap.size, 1, none⟩) sX).trans Ke0; have Kf1 := (hb.cell (p := ⟨x1.heap.size, 2, none⟩) sX).trans Kf0; have sA1 := Nat.lt_of_lt_of_le sA hb.size; have sX1 := Nat.lt_of_lt_of_le sX hb.size; have HU := Lib.hid hB; have HV1 := Lib.hid (X1.out.below hb); have HB1 := Lib.hid hb; clear hown hb hB)
        | (go_at_call 18; refine (eqEdit_any a1 m1 a1 m1 xA uA l1 l1 xc uc _ hn91 (by exact HV1.out) (by exact HU.out)).mono ?_; rintro e v2 ⟨rfl, hb⟩; have hb : Below u1.heap.size u1 v2 := ⟨hb.os, hb.tape, hb.output, hb.size, hb.block⟩; rw [decide_eq_true (⟨rfl, rfl, rfl⟩ : a1 = a1 ∧ m1 = m1 ∧ l1 = l1)]; have Ka2 := (hb.cell (p := ⟨w.heap.size + 1, 0, none⟩) sA1).trans Ka1; have Kb2 := (hb.cell (p := ⟨w.heap.size + 1, 1, none⟩) sA1).trans Kb1; have Kc2 := (hb.cell (p := ⟨w.heap.size + 1, 2, none⟩) sA1).trans Kc1; have Kd2 := (hb.cell (p := ⟨x1.heap.size, 0, none⟩) sX1).trans Kd1; have Ke2 := (hb.cell (p := ⟨x1.heap.size, 1, none⟩) sX1).trans Ke1; have Kf2 := (hb.cell (p := ⟨x1.heap.size, 2, none⟩) sX1).trans Kf1; have HB2 := Lib.hid (below_then HB1.out hb); clear hb))
      have hb9 := below_then HB.out HB2.out
      go_wp2
      go_ret
      exact ⟨rfl, hb9⟩

end Go.Proofs.Ytoaimklllmelpaa.fnExactSelMove
