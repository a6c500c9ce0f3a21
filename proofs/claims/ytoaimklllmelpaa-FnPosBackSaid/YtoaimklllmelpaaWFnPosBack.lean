/-
  FnPosBack, its walk. Own work.
-/
import Derived.Test.YtoaimklllmelpaaLaw0
import Derived.Test.YtoaimklllmelpaaJ09b
import Derived.Test.YtoaimklllmelpaaCur13
import Derived.Test.YtoaimklllmelpaaCur14
import Derived.Test.YtoaimklllmelpaaS08
import Derived.Test.YtoaimklllmelpaaP09b
import Derived.ProofKit
import Derived.OpenShut
import Derived.OpenVars
import Derived.ChangeOld
import Derived.Deep.DeepHandedRow
import Derived.Deep.RegionHeld3
import Derived.Deep.DeepCutAuto
namespace Go.Proofs.Ytoaimklllmelpaa.fnPosBack
open Go.ChangeShapes Go.WideShapes Go.ChangeAt Go.RowKit P
set_option linter.unusedVariables false
set_option maxRecDepth 100000

set_option maxHeartbeats 16000000 in
theorem walk (A : Option Addr) (l : List UInt8) (c : Nat) (hc : l.length ≤ c) (hm : c ≤ maxLen) (w : World) (hB : Bs w A l) :
    Calls Try.prog 11 #[.slice A l.length c] w fun e w' => e = .returned (.bool true) ∧ Below w.heap.size w w' := by
  by_cases hbig : 1048576 < l.length
  · have hb : decide (1048576 < l.length) = true := decide_eq_true hbig
    have HBG := Lib.hid hb
    clear hb hbig
    go_enter Try.func11, Try.ntmps11
    go_wp2_with (go_at_call 39; refine (big_any _ _ _ _).mono ?_; rintro e w' ⟨rfl, rfl⟩; rw [HBG.out])
    go_ret
    exact ⟨rfl, Below.refl _ _⟩
  have hl : l.length ≤ 1048576 := by omega
  have hb : decide (1048576 < l.length) = false := decide_eq_false hbig
  have HBG := Lib.hid hb
  clear hb hbig hc hm
  go_enter Try.func11, Try.ntmps11
  go_wp2_with fail
  refine (big_any _ _ _ _).mono ?_
  rintro e w0 ⟨rfl, rfl⟩
  rw [HBG.out]
  go_wp2_with fail
  refine (drawEditDo_any A l c _ hl (by exact hB)).mono ?_
  rintro e w1 ⟨A1, t, c1, a, m, B1, p, d1, rfl, ht4, hc1, hc19, hP1, hX1, ha, hm, hp5, hd1, hd19, hQ1, hY1, hb1⟩
  obtain ⟨z, hz⟩ : ∃ z, edOk t a m p = z := ⟨_, rfl⟩
  obtain ⟨ra, hra⟩ : ∃ z, backA t a m p = z := ⟨_, rfl⟩
  obtain ⟨rm, hrm⟩ : ∃ z, backM t a m p = z := ⟨_, rfl⟩
  obtain ⟨R, hR⟩ : ∃ z, backP t a m p = z := ⟨_, rfl⟩
  have hRl : R.length ≤ 400 := by rw [← hR]; exact backP_len t a m p
  have HZ := Lib.hid hz
  have HRA := Lib.hid hra
  have HRM := Lib.hid hrm
  have HR := Lib.hid hR
  have hal := (Below.refl w1.heap.size w1).alloc (Nat.le_refl _) (.cells #[.int .i64 a, .int .i64 m, .slice B1 p.length d1] 27)
  have bE := EBox.new w1 a m B1 p.length d1
  have hX1 := hX1.below hal
  have hY1 := hY1.below hal
  have hb1 := below_then hb1 hal
  have k0 := bE.c0
  have k1 := bE.c1
  have k2 := bE.c2
  clear hz hra hrm hR hal HBG
  go_wp2_with fail
  generalize w1.alloc (.cells #[.int .i64 a, .int .i64 m, .slice B1 p.length d1] 27) = W1 at *
  refine (specEditBack_any A1 t c1 a m B1 p d1 _ hc1 hc19 hd1 hd19 hP1 (by exact hX1) (by exact hY1)).mono ?_
  rintro e w2 ⟨v2, rfl, hown2, hb2⟩
  rw [HZ.out, HRA.out, HRM.out]
  rw [HR.out] at hown2
  obtain ⟨A2, c2, rfl, hc2, hc29, hB2, _, _⟩ := own_plain9 hown2
  have hal := (Below.refl w2.heap.size w2).alloc (Nat.le_refl _) (.cells #[.int .i64 ra, .int .i64 rm, .slice A2 R.length c2] 27)
  have bW := EBox.new w2 ra rm A2 R.length c2
  have hb3 := below_then hb2 hal
  have bE := bE.below hb3
  have hb1 := below_then hb1 hb3
  clear k0 k1 k2 hal hb2 hb3 hown2 hX1 hY1
  have k0 := bE.c0
  have k1 := bE.c1
  have k2 := bE.c2
  have u0 := bW.c0
  have u1 := bW.c1
  have u2 := bW.c2
  cases z
  · go_wp2
    go_ret
    exact ⟨rfl, hb1⟩
  have hok := HZ.out
  have er : a = ra := by rw [← HRA.out]; unfold backA; rw [hok]; rfl
  have em : (p.length : Int) = rm := by rw [← HRM.out]; unfold backM; rw [hok]; rfl
  have eR : edCut t a m = R := by rw [← HR.out]; unfold backP; rw [hok]; rfl
  have hrng := edOk_range hok
  have hin : ∀ q : Int, a < q → q < a + m → posMove q false a m p = a ∧ posMove a false ra rm R = a := fun q g1 g2 => by
    have h9 := back_in hok g1 g2
    rw [← eR, ← em, ← er]; exact h9
  have hout : ∀ (q : Int) (r : Bool), 0 ≤ q ∧ q ≤ t.length → ¬ (a < q ∧ q < a + m) → (r = true ↔ a + m ≤ q ∧ a < q) → posMove (posMove q r a m p) r ra rm R = q := fun q r g1 g2 g3 => by
    have h9 := back_out hok g1 g2 r g3
    rw [← eR, ← em, ← er]; exact h9
  have HIN := Lib.hid hin
  have HOUT := Lib.hid hout
  have hp9 : p.length ≤ 9223372036854775807 := by omega
  have hR9 : R.length ≤ 9223372036854775807 := by omega
  have hwr : IntKind.i64.wrap (a + m) = a + m := IntWalk.i64_in _ ⟨by omega, by omega⟩
  have hB' := Lib.hid (hB.below hb1)
  clear er em eR hok hin hout HRA HRM HR
  go_wp2_with fail
  generalize w2.alloc (.cells #[.int .i64 ra, .int .i64 rm, .slice A2 R.length c2] 27) = W2 at *
  refine (lawPickN_any 4 (by omega) A l c _ _ hl (by omega) (by omega) (by exact hB'.out)).mono ?_
  rintro e w3 ⟨⟨q, rfl, hq0, hq1⟩, hb4⟩
  have hq2 : q ≤ t.length := by omega
  have HA := Lib.hid (bE.below hb4)
  have HBB := Lib.hid (bW.below hb4)
  have HAL := Lib.hid (below_then hb1 hb4)
  clear k0 k1 k2 u0 u1 u2 hb4 bE bW hb1 hB'
  have k0 := HA.out.c0
  have k1 := HA.out.c1
  have k2 := HA.out.c2
  have u0 := HBB.out.c0
  have u1 := HBB.out.c1
  have u2 := HBB.out.c2
  by_cases g1 : a < q
  · by_cases g2 : q < a + m
    · obtain ⟨i1, i2⟩ := HIN.out q g1 g2
      have I1 := Lib.hid i1
      have I2 := Lib.hid i2
      have haa : (a == a) = true := by simp
      clear i1 i2 HIN HOUT
      go_wp2_with fail
      refine wp_region_held_drew (S := (fun V => V.cell? ⟨w1.heap.size, 0, none⟩ = some (.int .i64 a) ∧ V.cell? ⟨w1.heap.size, 1, none⟩ = some (.int .i64 m) ∧ V.cell? ⟨w1.heap.size, 2, none⟩ = some (.slice B1 p.length d1) ∧ V.cell? ⟨w2.heap.size, 0, none⟩ = some (.int .i64 ra) ∧ V.cell? ⟨w2.heap.size, 1, none⟩ = some (.int .i64 rm) ∧ V.cell? ⟨w2.heap.size, 2, none⟩ = some (.slice A2 R.length c2))) (by kernel_rfl) (by exact ⟨k0, k1, k2, u0, u1, u2⟩) (fun hHeld => ?_)
      clear k0 k1 k2 u0 u1 u2
      refine wpAnyH_take (i := 0) (oi := ?_) (v := ?_) ?_ ?_ ?_ ?_ ?_ ?_ (by exact hHeld) ?_
      rotate_left 2
      · (simp only [List.getElem?_toArray, List.getElem?_cons_zero]; try rfl)
      · kernel_rfl
      · kernel_rfl
      · kernel_rfl
      · exact fun _ _ _ h => h
      · refine Or.inl ⟨by rfl, ?_⟩
        (intro V hSV; (try dsimp only at hSV); obtain ⟨q0, q1, q2, q3, q4, q5⟩ := hSV; go_simp; try with_reducible rfl)
      (try simp only [Act.put, List.setIfInBounds_toArray, List.set_cons_zero, List.set_cons_succ])
      refine wpAnyH_take (i := 1) (oi := ?_) (v := ?_) ?_ ?_ ?_ ?_ ?_ ?_ (by exact hHeld) ?_
      rotate_left 2
      · (simp only [List.getElem?_toArray, List.getElem?_cons_zero, List.getElem?_cons_succ]; try rfl)
      · kernel_rfl
      · kernel_rfl
      · kernel_rfl
      · exact fun _ _ _ h => h
      · refine Or.inl ⟨by rfl, ?_⟩
        (intro V hSV; (try dsimp only at hSV); obtain ⟨q0, q1, q2, q3, q4, q5⟩ := hSV; go_simp; try with_reducible rfl)
      (try simp only [Act.put, List.setIfInBounds_toArray, List.set_cons_zero, List.set_cons_succ])
      refine wpAnyH_take (i := 3) (oi := ?_) (v := ?_) ?_ ?_ ?_ ?_ ?_ ?_ (by exact hHeld) ?_
      rotate_left 2
      · (simp only [List.getElem?_toArray, List.getElem?_cons_zero, List.getElem?_cons_succ]; try rfl)
      · kernel_rfl
      · kernel_rfl
      · kernel_rfl
      · exact fun _ _ _ h => h
      · refine Or.inl ⟨by rfl, ?_⟩
        (intro V hSV; (try dsimp only at hSV); obtain ⟨q0, q1, q2, q3, q4, q5⟩ := hSV; go_simp; try with_reducible rfl)
      (try simp only [Act.put, List.setIfInBounds_toArray, List.set_cons_zero, List.set_cons_succ])
      refine wpAnyH_take (i := 5) (oi := ?_) (v := ?_) ?_ ?_ ?_ ?_ ?_ ?_ (by exact hHeld) ?_
      rotate_left 2
      · (simp only [List.getElem?_toArray, List.getElem?_cons_zero, List.getElem?_cons_succ]; try rfl)
      · kernel_rfl
      · kernel_rfl
      · kernel_rfl
      · exact fun _ _ _ h => h
      · refine Or.inl ⟨by rfl, ?_⟩
        (intro V hSV; (try dsimp only at hSV); obtain ⟨q0, q1, q2, q3, q4, q5⟩ := hSV; go_simp; try with_reducible rfl)
      (try simp only [Act.put, List.setIfInBounds_toArray, List.set_cons_zero, List.set_cons_succ])
      refine wpAnyH_take (i := 6) (oi := ?_) (v := ?_) ?_ ?_ ?_ ?_ ?_ ?_ (by exact hHeld) ?_
      rotate_left 2
      · (simp only [List.getElem?_toArray, List.getElem?_cons_zero, List.getElem?_cons_succ]; try rfl)
      · kernel_rfl
      · kernel_rfl
      · kernel_rfl
      · exact fun _ _ _ h => h
      · refine Or.inl ⟨by rfl, ?_⟩
        (intro V hSV; (try dsimp only at hSV); obtain ⟨q0, q1, q2, q3, q4, q5⟩ := hSV; go_simp; try with_reducible rfl)
      (try simp only [Act.put, List.setIfInBounds_toArray, List.set_cons_zero, List.set_cons_succ])
      refine wpAnyH_ready (rs := [2]) (by kernel_rfl) (by simp) ?_
      refine AllReadyH.cons rfl (fun K hK => ?_) AllReadyH.nil
      go_simp
      refine (implPosMove_any q false a m B1 p d1 _ hp9).mono ?_
      rintro e w4 ⟨rfl, hb⟩
      rw [I1.out]
      have hb : Below w3.heap.size w3 w4 := ⟨hb.os, hb.tape, hb.output, hb.size, hb.block⟩
      have Hw4 := Lib.hid hb
      clear hb
      go_wp2_with fail
      refine hK.out _ _ (by exact ⟨(HA.out.below Hw4.out).c0, (HA.out.below Hw4.out).c1, (HA.out.below Hw4.out).c2, (HBB.out.below Hw4.out).c0, (HBB.out.below Hw4.out).c1, (HBB.out.below Hw4.out).c2⟩) (fun hHeld => ?_)
      clear hK K
      (try simp only [Act.put, List.setIfInBounds_toArray, List.set_cons_zero, List.set_cons_succ])
      refine wpAnyH_ready (rs := [4]) (by kernel_rfl) (by simp) ?_
      refine AllReadyH.cons rfl (fun K hK => ?_) AllReadyH.nil
      go_simp
      refine (implPosMove_any a false ra rm A2 R c2 _ hR9).mono ?_
      rintro e w5 ⟨rfl, hb⟩
      rw [I2.out]
      have hb : Below w4.heap.size w4 w5 := ⟨hb.os, hb.tape, hb.output, hb.size, hb.block⟩
      have Hw5 := Lib.hid (below_then Hw4.out hb)
      clear hb
      go_wp2_with fail
      refine hK.out _ _ (by exact ⟨(HA.out.below Hw5.out).c0, (HA.out.below Hw5.out).c1, (HA.out.below Hw5.out).c2, (HBB.out.below Hw5.out).c0, (HBB.out.below Hw5.out).c1, (HBB.out.below Hw5.out).c2⟩) (fun hHeld => ?_)
      clear hK K
      (try simp only [Act.put, List.setIfInBounds_toArray, List.set_cons_zero, List.set_cons_succ])
      refine wpAnyH_take (i := 7) (oi := ?_) (v := ?_) ?_ ?_ ?_ ?_ ?_ ?_ (by exact hHeld) ?_
      rotate_left 2
      · (simp only [List.getElem?_toArray, List.getElem?_cons_zero, List.getElem?_cons_succ]; try rfl)
      · kernel_rfl
      · kernel_rfl
      · kernel_rfl
      · exact fun _ _ _ h => h
      · refine Or.inl ⟨by rfl, ?_⟩
        (intro V hSV; (try dsimp only at hSV); obtain ⟨q0, q1, q2, q3, q4, q5⟩ := hSV; go_simp; try with_reducible rfl)
      (try simp only [Act.put, List.setIfInBounds_toArray, List.set_cons_zero, List.set_cons_succ])
      refine wpAnyH_take (i := 8) (oi := ?_) (v := ?_) ?_ ?_ ?_ ?_ ?_ ?_ (by exact hHeld) ?_
      rotate_left 2
      · (simp only [List.getElem?_toArray, List.getElem?_cons_zero, List.getElem?_cons_succ]; try rfl)
      · kernel_rfl
      · kernel_rfl
      · kernel_rfl
      · exact fun _ _ _ h => h
      · refine Or.inl ⟨by rfl, ?_⟩
        (intro V hSV; (try dsimp only at hSV); obtain ⟨q0, q1, q2, q3, q4, q5⟩ := hSV; go_simp; try with_reducible rfl)
      (try simp only [Act.put, List.setIfInBounds_toArray, List.set_cons_zero, List.set_cons_succ])
      refine wpAnyH_done (by kernel_rfl) ?_ _
      have hb9 := below_then HAL.out Hw5.out
      go_wp2
      go_ret
      exact ⟨rfl, hb9⟩
    have g3 : a + m ≤ q := by omega
    have i1 := HOUT.out q true ⟨hq0, hq2⟩ (by omega) (by constructor <;> intro h9 <;> first | rfl | omega)
    obtain ⟨x, hx⟩ : ∃ x, posMove q true a m p = x := ⟨_, rfl⟩
    rw [hx] at i1
    have X := Lib.hid hx
    have I1 := Lib.hid i1
    have hqq : (q == q) = true := by simp
    clear i1 hx HIN HOUT
    go_wp2_with fail
    refine wp_region_held_drew (S := (fun V => V.cell? ⟨w1.heap.size, 0, none⟩ = some (.int .i64 a) ∧ V.cell? ⟨w1.heap.size, 1, none⟩ = some (.int .i64 m) ∧ V.cell? ⟨w1.heap.size, 2, none⟩ = some (.slice B1 p.length d1) ∧ V.cell? ⟨w2.heap.size, 0, none⟩ = some (.int .i64 ra) ∧ V.cell? ⟨w2.heap.size, 1, none⟩ = some (.int .i64 rm) ∧ V.cell? ⟨w2.heap.size, 2, none⟩ = some (.slice A2 R.length c2))) (by kernel_rfl) (by exact ⟨k0, k1, k2, u0, u1, u2⟩) (fun hHeld => ?_)
    clear k0 k1 k2 u0 u1 u2
    refine wpAnyH_take (i := 0) (oi := ?_) (v := ?_) ?_ ?_ ?_ ?_ ?_ ?_ (by exact hHeld) ?_
    rotate_left 2
    · (simp only [List.getElem?_toArray, List.getElem?_cons_zero]; try rfl)
    · kernel_rfl
    · kernel_rfl
    · kernel_rfl
    · exact fun _ _ _ h => h
    · refine Or.inl ⟨by rfl, ?_⟩
      (intro V hSV; (try dsimp only at hSV); obtain ⟨q0, q1, q2, q3, q4, q5⟩ := hSV; go_simp; try with_reducible rfl)
    (try simp only [Act.put, List.setIfInBounds_toArray, List.set_cons_zero, List.set_cons_succ])
    refine wpAnyH_take (i := 1) (oi := ?_) (v := ?_) ?_ ?_ ?_ ?_ ?_ ?_ (by exact hHeld) ?_
    rotate_left 2
    · (simp only [List.getElem?_toArray, List.getElem?_cons_zero, List.getElem?_cons_succ]; try rfl)
    · kernel_rfl
    · kernel_rfl
    · kernel_rfl
    · exact fun _ _ _ h => h
    · refine Or.inl ⟨by rfl, ?_⟩
      (intro V hSV; (try dsimp only at hSV); obtain ⟨q0, q1, q2, q3, q4, q5⟩ := hSV; go_simp; try with_reducible rfl)
    (try simp only [Act.put, List.setIfInBounds_toArray, List.set_cons_zero, List.set_cons_succ])
    refine wpAnyH_take (i := 2) (oi := ?_) (v := ?_) ?_ ?_ ?_ ?_ ?_ ?_ (by exact hHeld) ?_
    rotate_left 2
    · (simp only [List.getElem?_toArray, List.getElem?_cons_zero, List.getElem?_cons_succ]; try rfl)
    · kernel_rfl
    · kernel_rfl
    · kernel_rfl
    · exact fun _ _ _ h => h
    · refine Or.inl ⟨by rfl, ?_⟩
      (intro V hSV; (try dsimp only at hSV); obtain ⟨q0, q1, q2, q3, q4, q5⟩ := hSV; go_simp; try with_reducible rfl)
    (try simp only [Act.put, List.setIfInBounds_toArray, List.set_cons_zero, List.set_cons_succ])
    refine wpAnyH_take (i := 4) (oi := ?_) (v := ?_) ?_ ?_ ?_ ?_ ?_ ?_ (by exact hHeld) ?_
    rotate_left 2
    · (simp only [List.getElem?_toArray, List.getElem?_cons_zero, List.getElem?_cons_succ]; try rfl)
    · kernel_rfl
    · kernel_rfl
    · kernel_rfl
    · exact fun _ _ _ h => h
    · refine Or.inl ⟨by rfl, ?_⟩
      (intro V hSV; (try dsimp only at hSV); obtain ⟨q0, q1, q2, q3, q4, q5⟩ := hSV; go_simp; try with_reducible rfl)
    (try simp only [Act.put, List.setIfInBounds_toArray, List.set_cons_zero, List.set_cons_succ])
    refine wpAnyH_take (i := 5) (oi := ?_) (v := ?_) ?_ ?_ ?_ ?_ ?_ ?_ (by exact hHeld) ?_
    rotate_left 2
    · (simp only [List.getElem?_toArray, List.getElem?_cons_zero, List.getElem?_cons_succ]; try rfl)
    · kernel_rfl
    · kernel_rfl
    · kernel_rfl
    · exact fun _ _ _ h => h
    · refine Or.inl ⟨by rfl, ?_⟩
      (intro V hSV; (try dsimp only at hSV); obtain ⟨q0, q1, q2, q3, q4, q5⟩ := hSV; go_simp; try with_reducible rfl)
    (try simp only [Act.put, List.setIfInBounds_toArray, List.set_cons_zero, List.set_cons_succ])
    refine wpAnyH_take (i := 7) (oi := ?_) (v := ?_) ?_ ?_ ?_ ?_ ?_ ?_ (by exact hHeld) ?_
    rotate_left 2
    · (simp only [List.getElem?_toArray, List.getElem?_cons_zero, List.getElem?_cons_succ]; try rfl)
    · kernel_rfl
    · kernel_rfl
    · kernel_rfl
    · exact fun _ _ _ h => h
    · refine Or.inl ⟨by rfl, ?_⟩
      (intro V hSV; (try dsimp only at hSV); obtain ⟨q0, q1, q2, q3, q4, q5⟩ := hSV; go_simp; try with_reducible rfl)
    (try simp only [Act.put, List.setIfInBounds_toArray, List.set_cons_zero, List.set_cons_succ])
    refine wpAnyH_ready (rs := [3]) (by kernel_rfl) (by simp) ?_
    refine AllReadyH.cons rfl (fun K hK => ?_) AllReadyH.nil
    go_simp
    refine (implPosMove_any q true a m B1 p d1 _ hp9).mono ?_
    rintro e w4 ⟨rfl, hb⟩
    rw [X.out]
    have hb : Below w3.heap.size w3 w4 := ⟨hb.os, hb.tape, hb.output, hb.size, hb.block⟩
    have Hw4 := Lib.hid hb
    clear hb
    go_wp2_with fail
    refine hK.out _ _ (by exact ⟨(HA.out.below Hw4.out).c0, (HA.out.below Hw4.out).c1, (HA.out.below Hw4.out).c2, (HBB.out.below Hw4.out).c0, (HBB.out.below Hw4.out).c1, (HBB.out.below Hw4.out).c2⟩) (fun hHeld => ?_)
    clear hK K
    (try simp only [Act.put, List.setIfInBounds_toArray, List.set_cons_zero, List.set_cons_succ])
    refine wpAnyH_ready (rs := [6]) (by kernel_rfl) (by simp) ?_
    refine AllReadyH.cons rfl (fun K hK => ?_) AllReadyH.nil
    go_simp
    refine (implPosMove_any x true ra rm A2 R c2 _ hR9).mono ?_
    rintro e w5 ⟨rfl, hb⟩
    rw [I1.out]
    have hb : Below w4.heap.size w4 w5 := ⟨hb.os, hb.tape, hb.output, hb.size, hb.block⟩
    have Hw5 := Lib.hid (below_then Hw4.out hb)
    clear hb
    go_wp2_with fail
    refine hK.out _ _ (by exact ⟨(HA.out.below Hw5.out).c0, (HA.out.below Hw5.out).c1, (HA.out.below Hw5.out).c2, (HBB.out.below Hw5.out).c0, (HBB.out.below Hw5.out).c1, (HBB.out.below Hw5.out).c2⟩) (fun hHeld => ?_)
    clear hK K
    (try simp only [Act.put, List.setIfInBounds_toArray, List.set_cons_zero, List.set_cons_succ])
    refine wpAnyH_take (i := 8) (oi := ?_) (v := ?_) ?_ ?_ ?_ ?_ ?_ ?_ (by exact hHeld) ?_
    rotate_left 2
    · (simp only [List.getElem?_toArray, List.getElem?_cons_zero, List.getElem?_cons_succ]; try rfl)
    · kernel_rfl
    · kernel_rfl
    · kernel_rfl
    · exact fun _ _ _ h => h
    · refine Or.inl ⟨by rfl, ?_⟩
      (intro V hSV; (try dsimp only at hSV); obtain ⟨q0, q1, q2, q3, q4, q5⟩ := hSV; go_simp; try with_reducible rfl)
    (try simp only [Act.put, List.setIfInBounds_toArray, List.set_cons_zero, List.set_cons_succ])
    refine wpAnyH_take (i := 9) (oi := ?_) (v := ?_) ?_ ?_ ?_ ?_ ?_ ?_ (by exact hHeld) ?_
    rotate_left 2
    · (simp only [List.getElem?_toArray, List.getElem?_cons_zero, List.getElem?_cons_succ]; try rfl)
    · kernel_rfl
    · kernel_rfl
    · kernel_rfl
    · exact fun _ _ _ h => h
    · refine Or.inl ⟨by rfl, ?_⟩
      (intro V hSV; (try dsimp only at hSV); obtain ⟨q0, q1, q2, q3, q4, q5⟩ := hSV; go_simp; try with_reducible rfl)
    (try simp only [Act.put, List.setIfInBounds_toArray, List.set_cons_zero, List.set_cons_succ])
    refine wpAnyH_done (by kernel_rfl) ?_ _
    have hb9 := below_then HAL.out Hw5.out
    go_wp2
    go_ret
    exact ⟨rfl, hb9⟩
  by_cases g2 : a + m ≤ q
  · have i1 := HOUT.out q false ⟨hq0, hq2⟩ (by omega) (by constructor <;> intro h9 <;> first | (cases h9; done) | omega)
    obtain ⟨x, hx⟩ : ∃ x, posMove q false a m p = x := ⟨_, rfl⟩
    rw [hx] at i1
    have X := Lib.hid hx
    have I1 := Lib.hid i1
    have hqq : (q == q) = true := by simp
    clear i1 hx HIN HOUT
    go_wp2_with fail
    refine wp_region_held_drew (S := (fun V => V.cell? ⟨w1.heap.size, 0, none⟩ = some (.int .i64 a) ∧ V.cell? ⟨w1.heap.size, 1, none⟩ = some (.int .i64 m) ∧ V.cell? ⟨w1.heap.size, 2, none⟩ = some (.slice B1 p.length d1) ∧ V.cell? ⟨w2.heap.size, 0, none⟩ = some (.int .i64 ra) ∧ V.cell? ⟨w2.heap.size, 1, none⟩ = some (.int .i64 rm) ∧ V.cell? ⟨w2.heap.size, 2, none⟩ = some (.slice A2 R.length c2))) (by kernel_rfl) (by exact ⟨k0, k1, k2, u0, u1, u2⟩) (fun hHeld => ?_)
    clear k0 k1 k2 u0 u1 u2
    refine wpAnyH_take (i := 0) (oi := ?_) (v := ?_) ?_ ?_ ?_ ?_ ?_ ?_ (by exact hHeld) ?_
    rotate_left 2
    · (simp only [List.getElem?_toArray, List.getElem?_cons_zero]; try rfl)
    · kernel_rfl
    · kernel_rfl
    · kernel_rfl
    · exact fun _ _ _ h => h
    · refine Or.inl ⟨by rfl, ?_⟩
      (intro V hSV; (try dsimp only at hSV); obtain ⟨q0, q1, q2, q3, q4, q5⟩ := hSV; go_simp; try with_reducible rfl)
    (try simp only [Act.put, List.setIfInBounds_toArray, List.set_cons_zero, List.set_cons_succ])
    refine wpAnyH_take (i := 1) (oi := ?_) (v := ?_) ?_ ?_ ?_ ?_ ?_ ?_ (by exact hHeld) ?_
    rotate_left 2
    · (simp only [List.getElem?_toArray, List.getElem?_cons_zero, List.getElem?_cons_succ]; try rfl)
    · kernel_rfl
    · kernel_rfl
    · kernel_rfl
    · exact fun _ _ _ h => h
    · refine Or.inl ⟨by rfl, ?_⟩
      (intro V hSV; (try dsimp only at hSV); obtain ⟨q0, q1, q2, q3, q4, q5⟩ := hSV; go_simp; try with_reducible rfl)
    (try simp only [Act.put, List.setIfInBounds_toArray, List.set_cons_zero, List.set_cons_succ])
    refine wpAnyH_take (i := 2) (oi := ?_) (v := ?_) ?_ ?_ ?_ ?_ ?_ ?_ (by exact hHeld) ?_
    rotate_left 2
    · (simp only [List.getElem?_toArray, List.getElem?_cons_zero, List.getElem?_cons_succ]; try rfl)
    · kernel_rfl
    · kernel_rfl
    · kernel_rfl
    · exact fun _ _ _ h => h
    · refine Or.inl ⟨by rfl, ?_⟩
      (intro V hSV; (try dsimp only at hSV); obtain ⟨q0, q1, q2, q3, q4, q5⟩ := hSV; go_simp; try with_reducible rfl)
    (try simp only [Act.put, List.setIfInBounds_toArray, List.set_cons_zero, List.set_cons_succ])
    refine wpAnyH_take (i := 4) (oi := ?_) (v := ?_) ?_ ?_ ?_ ?_ ?_ ?_ (by exact hHeld) ?_
    rotate_left 2
    · (simp only [List.getElem?_toArray, List.getElem?_cons_zero, List.getElem?_cons_succ]; try rfl)
    · kernel_rfl
    · kernel_rfl
    · kernel_rfl
    · exact fun _ _ _ h => h
    · refine Or.inl ⟨by rfl, ?_⟩
      (intro V hSV; (try dsimp only at hSV); obtain ⟨q0, q1, q2, q3, q4, q5⟩ := hSV; go_simp; try with_reducible rfl)
    (try simp only [Act.put, List.setIfInBounds_toArray, List.set_cons_zero, List.set_cons_succ])
    refine wpAnyH_take (i := 5) (oi := ?_) (v := ?_) ?_ ?_ ?_ ?_ ?_ ?_ (by exact hHeld) ?_
    rotate_left 2
    · (simp only [List.getElem?_toArray, List.getElem?_cons_zero, List.getElem?_cons_succ]; try rfl)
    · kernel_rfl
    · kernel_rfl
    · kernel_rfl
    · exact fun _ _ _ h => h
    · refine Or.inl ⟨by rfl, ?_⟩
      (intro V hSV; (try dsimp only at hSV); obtain ⟨q0, q1, q2, q3, q4, q5⟩ := hSV; go_simp; try with_reducible rfl)
    (try simp only [Act.put, List.setIfInBounds_toArray, List.set_cons_zero, List.set_cons_succ])
    refine wpAnyH_take (i := 7) (oi := ?_) (v := ?_) ?_ ?_ ?_ ?_ ?_ ?_ (by exact hHeld) ?_
    rotate_left 2
    · (simp only [List.getElem?_toArray, List.getElem?_cons_zero, List.getElem?_cons_succ]; try rfl)
    · kernel_rfl
    · kernel_rfl
    · kernel_rfl
    · exact fun _ _ _ h => h
    · refine Or.inl ⟨by rfl, ?_⟩
      (intro V hSV; (try dsimp only at hSV); obtain ⟨q0, q1, q2, q3, q4, q5⟩ := hSV; go_simp; try with_reducible rfl)
    (try simp only [Act.put, List.setIfInBounds_toArray, List.set_cons_zero, List.set_cons_succ])
    refine wpAnyH_ready (rs := [3]) (by kernel_rfl) (by simp) ?_
    refine AllReadyH.cons rfl (fun K hK => ?_) AllReadyH.nil
    go_simp
    refine (implPosMove_any q false a m B1 p d1 _ hp9).mono ?_
    rintro e w4 ⟨rfl, hb⟩
    rw [X.out]
    have hb : Below w3.heap.size w3 w4 := ⟨hb.os, hb.tape, hb.output, hb.size, hb.block⟩
    have Hw4 := Lib.hid hb
    clear hb
    go_wp2_with fail
    refine hK.out _ _ (by exact ⟨(HA.out.below Hw4.out).c0, (HA.out.below Hw4.out).c1, (HA.out.below Hw4.out).c2, (HBB.out.below Hw4.out).c0, (HBB.out.below Hw4.out).c1, (HBB.out.below Hw4.out).c2⟩) (fun hHeld => ?_)
    clear hK K
    (try simp only [Act.put, List.setIfInBounds_toArray, List.set_cons_zero, List.set_cons_succ])
    refine wpAnyH_ready (rs := [6]) (by kernel_rfl) (by simp) ?_
    refine AllReadyH.cons rfl (fun K hK => ?_) AllReadyH.nil
    go_simp
    refine (implPosMove_any x false ra rm A2 R c2 _ hR9).mono ?_
    rintro e w5 ⟨rfl, hb⟩
    rw [I1.out]
    have hb : Below w4.heap.size w4 w5 := ⟨hb.os, hb.tape, hb.output, hb.size, hb.block⟩
    have Hw5 := Lib.hid (below_then Hw4.out hb)
    clear hb
    go_wp2_with fail
    refine hK.out _ _ (by exact ⟨(HA.out.below Hw5.out).c0, (HA.out.below Hw5.out).c1, (HA.out.below Hw5.out).c2, (HBB.out.below Hw5.out).c0, (HBB.out.below Hw5.out).c1, (HBB.out.below Hw5.out).c2⟩) (fun hHeld => ?_)
    clear hK K
    (try simp only [Act.put, List.setIfInBounds_toArray, List.set_cons_zero, List.set_cons_succ])
    refine wpAnyH_take (i := 8) (oi := ?_) (v := ?_) ?_ ?_ ?_ ?_ ?_ ?_ (by exact hHeld) ?_
    rotate_left 2
    · (simp only [List.getElem?_toArray, List.getElem?_cons_zero, List.getElem?_cons_succ]; try rfl)
    · kernel_rfl
    · kernel_rfl
    · kernel_rfl
    · exact fun _ _ _ h => h
    · refine Or.inl ⟨by rfl, ?_⟩
      (intro V hSV; (try dsimp only at hSV); obtain ⟨q0, q1, q2, q3, q4, q5⟩ := hSV; go_simp; try with_reducible rfl)
    (try simp only [Act.put, List.setIfInBounds_toArray, List.set_cons_zero, List.set_cons_succ])
    refine wpAnyH_take (i := 9) (oi := ?_) (v := ?_) ?_ ?_ ?_ ?_ ?_ ?_ (by exact hHeld) ?_
    rotate_left 2
    · (simp only [List.getElem?_toArray, List.getElem?_cons_zero, List.getElem?_cons_succ]; try rfl)
    · kernel_rfl
    · kernel_rfl
    · kernel_rfl
    · exact fun _ _ _ h => h
    · refine Or.inl ⟨by rfl, ?_⟩
      (intro V hSV; (try dsimp only at hSV); obtain ⟨q0, q1, q2, q3, q4, q5⟩ := hSV; go_simp; try with_reducible rfl)
    (try simp only [Act.put, List.setIfInBounds_toArray, List.set_cons_zero, List.set_cons_succ])
    refine wpAnyH_done (by kernel_rfl) ?_ _
    have hb9 := below_then HAL.out Hw5.out
    go_wp2
    go_ret
    exact ⟨rfl, hb9⟩
  have i1 := HOUT.out q false ⟨hq0, hq2⟩ (by omega) (by constructor <;> intro h9 <;> first | (cases h9; done) | omega)
  obtain ⟨x, hx⟩ : ∃ x, posMove q false a m p = x := ⟨_, rfl⟩
  rw [hx] at i1
  have X := Lib.hid hx
  have I1 := Lib.hid i1
  have hqq : (q == q) = true := by simp
  clear i1 hx HIN HOUT
  go_wp2_with fail
  refine wp_region_held_drew (S := (fun V => V.cell? ⟨w1.heap.size, 0, none⟩ = some (.int .i64 a) ∧ V.cell? ⟨w1.heap.size, 1, none⟩ = some (.int .i64 m) ∧ V.cell? ⟨w1.heap.size, 2, none⟩ = some (.slice B1 p.length d1) ∧ V.cell? ⟨w2.heap.size, 0, none⟩ = some (.int .i64 ra) ∧ V.cell? ⟨w2.heap.size, 1, none⟩ = some (.int .i64 rm) ∧ V.cell? ⟨w2.heap.size, 2, none⟩ = some (.slice A2 R.length c2))) (by kernel_rfl) (by exact ⟨k0, k1, k2, u0, u1, u2⟩) (fun hHeld => ?_)
  clear k0 k1 k2 u0 u1 u2
  refine wpAnyH_take (i := 0) (oi := ?_) (v := ?_) ?_ ?_ ?_ ?_ ?_ ?_ (by exact hHeld) ?_
  rotate_left 2
  · (simp only [List.getElem?_toArray, List.getElem?_cons_zero]; try rfl)
  · kernel_rfl
  · kernel_rfl
  · kernel_rfl
  · exact fun _ _ _ h => h
  · refine Or.inl ⟨by rfl, ?_⟩
    (intro V hSV; (try dsimp only at hSV); obtain ⟨q0, q1, q2, q3, q4, q5⟩ := hSV; go_simp; try with_reducible rfl)
  (try simp only [Act.put, List.setIfInBounds_toArray, List.set_cons_zero, List.set_cons_succ])
  refine wpAnyH_take (i := 1) (oi := ?_) (v := ?_) ?_ ?_ ?_ ?_ ?_ ?_ (by exact hHeld) ?_
  rotate_left 2
  · (simp only [List.getElem?_toArray, List.getElem?_cons_zero, List.getElem?_cons_succ]; try rfl)
  · kernel_rfl
  · kernel_rfl
  · kernel_rfl
  · exact fun _ _ _ h => h
  · refine Or.inl ⟨by rfl, ?_⟩
    (intro V hSV; (try dsimp only at hSV); obtain ⟨q0, q1, q2, q3, q4, q5⟩ := hSV; go_simp; try with_reducible rfl)
  (try simp only [Act.put, List.setIfInBounds_toArray, List.set_cons_zero, List.set_cons_succ])
  refine wpAnyH_take (i := 2) (oi := ?_) (v := ?_) ?_ ?_ ?_ ?_ ?_ ?_ (by exact hHeld) ?_
  rotate_left 2
  · (simp only [List.getElem?_toArray, List.getElem?_cons_zero, List.getElem?_cons_succ]; try rfl)
  · kernel_rfl
  · kernel_rfl
  · kernel_rfl
  · exact fun _ _ _ h => h
  · refine Or.inl ⟨by rfl, ?_⟩
    (intro V hSV; (try dsimp only at hSV); obtain ⟨q0, q1, q2, q3, q4, q5⟩ := hSV; go_simp; try with_reducible rfl)
  (try simp only [Act.put, List.setIfInBounds_toArray, List.set_cons_zero, List.set_cons_succ])
  refine wpAnyH_take (i := 4) (oi := ?_) (v := ?_) ?_ ?_ ?_ ?_ ?_ ?_ (by exact hHeld) ?_
  rotate_left 2
  · (simp only [List.getElem?_toArray, List.getElem?_cons_zero, List.getElem?_cons_succ]; try rfl)
  · kernel_rfl
  · kernel_rfl
  · kernel_rfl
  · exact fun _ _ _ h => h
  · refine Or.inl ⟨by rfl, ?_⟩
    (intro V hSV; (try dsimp only at hSV); obtain ⟨q0, q1, q2, q3, q4, q5⟩ := hSV; go_simp; try with_reducible rfl)
  (try simp only [Act.put, List.setIfInBounds_toArray, List.set_cons_zero, List.set_cons_succ])
  refine wpAnyH_take (i := 5) (oi := ?_) (v := ?_) ?_ ?_ ?_ ?_ ?_ ?_ (by exact hHeld) ?_
  rotate_left 2
  · (simp only [List.getElem?_toArray, List.getElem?_cons_zero, List.getElem?_cons_succ]; try rfl)
  · kernel_rfl
  · kernel_rfl
  · kernel_rfl
  · exact fun _ _ _ h => h
  · refine Or.inl ⟨by rfl, ?_⟩
    (intro V hSV; (try dsimp only at hSV); obtain ⟨q0, q1, q2, q3, q4, q5⟩ := hSV; go_simp; try with_reducible rfl)
  (try simp only [Act.put, List.setIfInBounds_toArray, List.set_cons_zero, List.set_cons_succ])
  refine wpAnyH_take (i := 7) (oi := ?_) (v := ?_) ?_ ?_ ?_ ?_ ?_ ?_ (by exact hHeld) ?_
  rotate_left 2
  · (simp only [List.getElem?_toArray, List.getElem?_cons_zero, List.getElem?_cons_succ]; try rfl)
  · kernel_rfl
  · kernel_rfl
  · kernel_rfl
  · exact fun _ _ _ h => h
  · refine Or.inl ⟨by rfl, ?_⟩
    (intro V hSV; (try dsimp only at hSV); obtain ⟨q0, q1, q2, q3, q4, q5⟩ := hSV; go_simp; try with_reducible rfl)
  (try simp only [Act.put, List.setIfInBounds_toArray, List.set_cons_zero, List.set_cons_succ])
  refine wpAnyH_ready (rs := [3]) (by kernel_rfl) (by simp) ?_
  refine AllReadyH.cons rfl (fun K hK => ?_) AllReadyH.nil
  go_simp
  refine (implPosMove_any q false a m B1 p d1 _ hp9).mono ?_
  rintro e w4 ⟨rfl, hb⟩
  rw [X.out]
  have hb : Below w3.heap.size w3 w4 := ⟨hb.os, hb.tape, hb.output, hb.size, hb.block⟩
  have Hw4 := Lib.hid hb
  clear hb
  go_wp2_with fail
  refine hK.out _ _ (by exact ⟨(HA.out.below Hw4.out).c0, (HA.out.below Hw4.out).c1, (HA.out.below Hw4.out).c2, (HBB.out.below Hw4.out).c0, (HBB.out.below Hw4.out).c1, (HBB.out.below Hw4.out).c2⟩) (fun hHeld => ?_)
  clear hK K
  (try simp only [Act.put, List.setIfInBounds_toArray, List.set_cons_zero, List.set_cons_succ])
  refine wpAnyH_ready (rs := [6]) (by kernel_rfl) (by simp) ?_
  refine AllReadyH.cons rfl (fun K hK => ?_) AllReadyH.nil
  go_simp
  refine (implPosMove_any x false ra rm A2 R c2 _ hR9).mono ?_
  rintro e w5 ⟨rfl, hb⟩
  rw [I1.out]
  have hb : Below w4.heap.size w4 w5 := ⟨hb.os, hb.tape, hb.output, hb.size, hb.block⟩
  have Hw5 := Lib.hid (below_then Hw4.out hb)
  clear hb
  go_wp2_with fail
  refine hK.out _ _ (by exact ⟨(HA.out.below Hw5.out).c0, (HA.out.below Hw5.out).c1, (HA.out.below Hw5.out).c2, (HBB.out.below Hw5.out).c0, (HBB.out.below Hw5.out).c1, (HBB.out.below Hw5.out).c2⟩) (fun hHeld => ?_)
  clear hK K
  (try simp only [Act.put, List.setIfInBounds_toArray, List.set_cons_zero, List.set_cons_succ])
  refine wpAnyH_take (i := 8) (oi := ?_) (v := ?_) ?_ ?_ ?_ ?_ ?_ ?_ (by exact hHeld) ?_
  rotate_left 2
  · (simp only [List.getElem?_toArray, List.getElem?_cons_zero, List.getElem?_cons_succ]; try rfl)
  · kernel_rfl
  · kernel_rfl
  · kernel_rfl
  · exact fun _ _ _ h => h
  · refine Or.inl ⟨by rfl, ?_⟩
    (intro V hSV; (try dsimp only at hSV); obtain ⟨q0, q1, q2, q3, q4, q5⟩ := hSV; go_simp; try with_reducible rfl)
  (try simp only [Act.put, List.setIfInBounds_toArray, List.set_cons_zero, List.set_cons_succ])
  refine wpAnyH_take (i := 9) (oi := ?_) (v := ?_) ?_ ?_ ?_ ?_ ?_ ?_ (by exact hHeld) ?_
  rotate_left 2
  · (simp only [List.getElem?_toArray, List.getElem?_cons_zero, List.getElem?_cons_succ]; try rfl)
  · kernel_rfl
  · kernel_rfl
  · kernel_rfl
  · exact fun _ _ _ h => h
  · refine Or.inl ⟨by rfl, ?_⟩
    (intro V hSV; (try dsimp only at hSV); obtain ⟨q0, q1, q2, q3, q4, q5⟩ := hSV; go_simp; try with_reducible rfl)
  (try simp only [Act.put, List.setIfInBounds_toArray, List.set_cons_zero, List.set_cons_succ])
  refine wpAnyH_done (by kernel_rfl) ?_ _
  have hb9 := below_then HAL.out Hw5.out
  go_wp2
  go_ret
  exact ⟨rfl, hb9⟩

end Go.Proofs.Ytoaimklllmelpaa.fnPosBack
