/-
  FnApart, its walk. Own work.
-/
import Derived.Test.YtoaimklllmelpaaLaw0
import Derived.Test.YtoaimklllmelpaaJ09d
import Derived.Test.YtoaimklllmelpaaJ09q
import Derived.Test.YtoaimklllmelpaaCur14
import Derived.Test.YtoaimklllmelpaaS08
import Derived.Test.YtoaimklllmelpaaP09b
import Derived.ProofKit
import Derived.OpenShut
import Derived.OpenVars
import Derived.ChangeOld
import Derived.Deep.DeepHandedRow
import Derived.Deep.RegionHeld3
import Derived.Deep.DeepCutAuto
namespace Go.Proofs.Ytoaimklllmelpaa.fnApart
open Go.ChangeShapes Go.WideShapes Go.ChangeAt Go.RowKit P
set_option linter.unusedVariables false
set_option maxRecDepth 100000

set_option maxHeartbeats 16000000 in
theorem walk (A : Option Addr) (l : List UInt8) (c : Nat) (hc : l.length ≤ c) (hm : c ≤ maxLen) (hN : A = none → c = 0) (w : World) (hB : Bs w A l) :
    Calls Try.prog 12 #[.slice A l.length c] w fun e w' => e = .returned (.bool true) ∧ Below w.heap.size w w' := by
  by_cases hbig : 1048576 < l.length
  · have hb : decide (1048576 < l.length) = true := decide_eq_true hbig
    have HBG := Lib.hid hb
    clear hb hbig
    go_enter Try.func12, Try.ntmps12
    go_wp2_with (go_at_call 39; refine (big_any _ _ _ _).mono ?_; rintro e w' ⟨rfl, rfl⟩; rw [HBG.out])
    go_ret
    exact ⟨rfl, Below.refl _ _⟩
  have hl : l.length ≤ 1048576 := by omega
  have hc9 : c ≤ 9223372036854775807 := by unfold maxLen at hm; omega
  have hb : decide (1048576 < l.length) = false := decide_eq_false hbig
  have HBG := Lib.hid hb
  clear hb hbig hm
  go_enter Try.func12, Try.ntmps12
  go_wp2_with fail
  refine (big_any _ _ _ _).mono ?_
  rintro e w0 ⟨rfl, rfl⟩
  rw [HBG.out]
  go_wp2_with fail
  refine (drawEditDo_any A l c _ hl (by exact hB)).mono ?_
  rintro e w1 ⟨A1, t, c1, a, m, B1, p, d1, rfl, ht4, hc1, hc19, hP1, hX1, ha, hm, hp5, hd1, hd19, hQ1, hY1, hb1⟩
  have hal := (Below.refl w1.heap.size w1).alloc (Nat.le_refl _) (.cells #[.int .i64 a, .int .i64 m, .slice B1 p.length d1] 27)
  have bE := EBox.new w1 a m B1 p.length d1
  have hX1 := hX1.below hal
  have hY1 := hY1.below hal
  have hb1 := below_then hb1 hal
  have hB1 := hB.below hb1
  clear hal HBG
  go_wp2_with fail
  generalize w1.alloc (.cells #[.int .i64 a, .int .i64 m, .slice B1 p.length d1] 27) = W1 at *
  refine (rest_any A l c _ hc hc9 hN (by exact hB1)).mono ?_
  rintro e w2 ⟨⟨A0, c0, l0, rfl, hl0, hB0⟩, rfl⟩
  go_wp2_with fail
  refine (drawEditBack_any A0 l0 c0 _ (by omega) (by exact hB0)).mono ?_
  rintro e w3 ⟨A3, t3, c3, b, n, B3, q, d3, rfl, _, _, _, _, _, hbb, hnn, hq5, hd3, hd39, hQ3, hY3, hb3⟩
  obtain ⟨b', hb'⟩ : ∃ x, min b 500 = x := ⟨_, rfl⟩
  have hbb' : -9223372036854775808 ≤ b' ∧ b' ≤ 9223372036854775807 := by omega
  have hal := (Below.refl w3.heap.size w3).alloc (Nat.le_refl _) (.cells #[.int .i64 b', .int .i64 n, .slice B3 q.length d3] 27)
  have bB := EBox.new w3 b' n B3 q.length d3
  have hb3 := below_then hb3 hal
  have bE := bE.below hb3
  have hX1 := hX1.below hb3
  have hY1 := hY1.below hb3
  have hY3 := hY3.below hal
  have hb1 := below_then hb1 hb3
  clear hal hb3 hB1 hB0 hl0
  go_wp2_with fail
  clear hb'
  generalize w3.alloc (.cells #[.int .i64 b', .int .i64 n, .slice B3 q.length d3] 27) = W3 at *
  obtain ⟨z, hz⟩ : ∃ z, apart a m p b' n q = z := ⟨_, rfl⟩
  obtain ⟨z1, hz1⟩ : ∃ z, edOk t a m p = z := ⟨_, rfl⟩
  obtain ⟨z2, hz2⟩ : ∃ z, edOk t b' n q = z := ⟨_, rfl⟩
  have HZ := Lib.hid hz
  have HZ1 := Lib.hid hz1
  have HZ2 := Lib.hid hz2
  have hzz : (z != z) = false := by simp
  have hp9 : p.length ≤ 9223372036854775807 := by omega
  have hq9 : q.length ≤ 9223372036854775807 := by omega
  have HA := Lib.hid bE
  have HBB := Lib.hid bB
  have HX := Lib.hid hX1
  have HY := Lib.hid hY1
  have HQ := Lib.hid hY3
  have HAL := Lib.hid hb1
  have k0 := bE.c0
  have k1 := bE.c1
  have k2 := bE.c2
  have u0 := bB.c0
  have u1 := bB.c1
  have u2 := bB.c2
  clear hz hz1 hz2 bE bB hX1 hY1 hY3 hb1
  refine wp_region_held_drew (S := (fun V => V.cell? ⟨w1.heap.size, 0, none⟩ = some (.int .i64 a) ∧ V.cell? ⟨w1.heap.size, 1, none⟩ = some (.int .i64 m) ∧ V.cell? ⟨w1.heap.size, 2, none⟩ = some (.slice B1 p.length d1) ∧ V.cell? ⟨w3.heap.size, 0, none⟩ = some (.int .i64 b') ∧ V.cell? ⟨w3.heap.size, 1, none⟩ = some (.int .i64 n) ∧ V.cell? ⟨w3.heap.size, 2, none⟩ = some (.slice B3 q.length d3))) (by kernel_rfl) (by exact ⟨k0, k1, k2, u0, u1, u2⟩) (fun hHeld => ?_)
  clear k0 k1 k2 u0 u1 u2
  refine wpAnyH_take (i := 0) (oi := ?_) (v := ?_) ?_ ?_ ?_ ?_ ?_ ?_ (by exact hHeld) ?_
  rotate_left 2
  · (simp only [List.getElem?_toArray, List.getElem?_cons_zero]; try rfl)
  · kernel_rfl
  · kernel_rfl
  · kernel_rfl
  · exact fun _ _ _ h => h
  · refine Or.inl ⟨by rfl, ?_⟩
    (intro V hSV; (try dsimp only at hSV); obtain ⟨q0, q1, q2, q3, q4, q5⟩ := hSV; go_simp; try with_reducible rfl)
  (try simp only [Act.put, List.setIfInBounds_toArray, List.set_cons_zero, List.set_cons_succ])
  refine wpAnyH_take (i := 1) (oi := ?_) (v := ?_) ?_ ?_ ?_ ?_ ?_ ?_ (by exact hHeld) ?_
  rotate_left 2
  · (simp only [List.getElem?_toArray, List.getElem?_cons_zero, List.getElem?_cons_succ]; try rfl)
  · kernel_rfl
  · kernel_rfl
  · kernel_rfl
  · exact fun _ _ _ h => h
  · refine Or.inl ⟨by rfl, ?_⟩
    (intro V hSV; (try dsimp only at hSV); obtain ⟨q0, q1, q2, q3, q4, q5⟩ := hSV; go_simp; try with_reducible rfl)
  (try simp only [Act.put, List.setIfInBounds_toArray, List.set_cons_zero, List.set_cons_succ])
  refine wpAnyH_take (i := 3) (oi := ?_) (v := ?_) ?_ ?_ ?_ ?_ ?_ ?_ (by exact hHeld) ?_
  rotate_left 2
  · (simp only [List.getElem?_toArray, List.getElem?_cons_zero, List.getElem?_cons_succ]; try rfl)
  · kernel_rfl
  · kernel_rfl
  · kernel_rfl
  · exact fun _ _ _ h => h
  · refine Or.inl ⟨by rfl, ?_⟩
    (intro V hSV; (try dsimp only at hSV); obtain ⟨q0, q1, q2, q3, q4, q5⟩ := hSV; go_simp; try with_reducible rfl)
  (try simp only [Act.put, List.setIfInBounds_toArray, List.set_cons_zero, List.set_cons_succ])
  refine wpAnyH_take (i := 4) (oi := ?_) (v := ?_) ?_ ?_ ?_ ?_ ?_ ?_ (by exact hHeld) ?_
  rotate_left 2
  · (simp only [List.getElem?_toArray, List.getElem?_cons_zero, List.getElem?_cons_succ]; try rfl)
  · kernel_rfl
  · kernel_rfl
  · kernel_rfl
  · exact fun _ _ _ h => h
  · refine Or.inl ⟨by rfl, ?_⟩
    (intro V hSV; (try dsimp only at hSV); obtain ⟨q0, q1, q2, q3, q4, q5⟩ := hSV; go_simp; try with_reducible rfl)
  (try simp only [Act.put, List.setIfInBounds_toArray, List.set_cons_zero, List.set_cons_succ])
  refine wpAnyH_ready (rs := [2]) (by kernel_rfl) (by simp) ?_
  refine AllReadyH.cons rfl (fun K hK => ?_) AllReadyH.nil
  go_simp
  refine (implEditsApart_any a m B1 p d1 b' n B3 q d3 _ hp9 hq9).mono ?_
  rintro e w4 ⟨rfl, hb⟩
  rw [HZ.out]
  have hb : Below W3.heap.size W3 w4 := ⟨hb.os, hb.tape, hb.output, hb.size, hb.block⟩
  have Hw4 := Lib.hid hb
  clear hb
  go_wp2_with fail
  refine hK.out _ _ (by exact ⟨(HA.out.below Hw4.out).c0, (HA.out.below Hw4.out).c1, (HA.out.below Hw4.out).c2, (HBB.out.below Hw4.out).c0, (HBB.out.below Hw4.out).c1, (HBB.out.below Hw4.out).c2⟩) (fun hHeld => ?_)
  clear hK K
  (try simp only [Act.put, List.setIfInBounds_toArray, List.set_cons_zero, List.set_cons_succ])
  refine wpAnyH_ready (rs := [5]) (by kernel_rfl) (by simp) ?_
  refine AllReadyH.cons rfl (fun K hK => ?_) AllReadyH.nil
  go_simp
  refine (specEditsApart_any a m B1 p d1 b' n B3 q d3 _ hp9 hq9).mono ?_
  rintro e w5 ⟨rfl, hb⟩
  rw [HZ.out]
  have hb : Below w4.heap.size w4 w5 := ⟨hb.os, hb.tape, hb.output, hb.size, hb.block⟩
  have Hw5 := Lib.hid (below_then Hw4.out hb)
  clear hb
  go_wp2_with fail
  refine hK.out _ _ (by exact ⟨(HA.out.below Hw5.out).c0, (HA.out.below Hw5.out).c1, (HA.out.below Hw5.out).c2, (HBB.out.below Hw5.out).c0, (HBB.out.below Hw5.out).c1, (HBB.out.below Hw5.out).c2⟩) (fun hHeld => ?_)
  clear hK K
  (try simp only [Act.put, List.setIfInBounds_toArray, List.set_cons_zero, List.set_cons_succ])
  refine wpAnyH_take (i := 6) (oi := ?_) (v := ?_) ?_ ?_ ?_ ?_ ?_ ?_ (by exact hHeld) ?_
  rotate_left 2
  · (simp only [List.getElem?_toArray, List.getElem?_cons_zero, List.getElem?_cons_succ]; try rfl)
  · kernel_rfl
  · kernel_rfl
  · kernel_rfl
  · exact fun _ _ _ h => h
  · refine Or.inl ⟨by rfl, ?_⟩
    (intro V hSV; (try dsimp only at hSV); obtain ⟨q0, q1, q2, q3, q4, q5⟩ := hSV; go_simp; try with_reducible rfl)
  (try simp only [Act.put, List.setIfInBounds_toArray, List.set_cons_zero, List.set_cons_succ])
  refine wpAnyH_done (by kernel_rfl) ?_ _
  have HA := Lib.hid (HA.out.below Hw5.out)
  have HBB := Lib.hid (HBB.out.below Hw5.out)
  have HX := Lib.hid (HX.out.below Hw5.out)
  have HY := Lib.hid (HY.out.below Hw5.out)
  have HQ := Lib.hid (HQ.out.below Hw5.out)
  have HAL := Lib.hid (below_then HAL.out Hw5.out)
  clear Hw4 Hw5 hHeld
  have k0 := HA.out.c0
  have k1 := HA.out.c1
  have k2 := HA.out.c2
  have u0 := HBB.out.c0
  have u1 := HBB.out.c1
  have u2 := HBB.out.c2
  go_wp2_with fail
  refine (specEditsApart_any a m B1 p d1 b' n B3 q d3 _ hp9 hq9).mono ?_
  rintro e w6 ⟨rfl, hb⟩
  rw [HZ.out]
  have HA := Lib.hid (HA.out.below hb)
  have HBB := Lib.hid (HBB.out.below hb)
  have HX := Lib.hid (HX.out.below hb)
  have HY := Lib.hid (HY.out.below hb)
  have HQ := Lib.hid (HQ.out.below hb)
  have HAL := Lib.hid (below_then HAL.out hb)
  clear k0 k1 k2 u0 u1 u2
  clear hb
  have k0 := HA.out.c0
  have k1 := HA.out.c1
  have k2 := HA.out.c2
  have u0 := HBB.out.c0
  have u1 := HBB.out.c1
  have u2 := HBB.out.c2
  cases z
  · go_wp2
    go_ret
    exact ⟨rfl, HAL.out⟩
  go_wp2_with fail
  refine (specEditOk_any A1 t c1 a m B1 p d1 _ hc1 hc19 hd1 hd19 (by exact HX.out) (by exact HY.out)).mono ?_
  rintro e w7 ⟨rfl, hb⟩
  rw [HZ1.out]
  have HA := Lib.hid (HA.out.below hb)
  have HBB := Lib.hid (HBB.out.below hb)
  have HX := Lib.hid (HX.out.below hb)
  have HY := Lib.hid (HY.out.below hb)
  have HQ := Lib.hid (HQ.out.below hb)
  have HAL := Lib.hid (below_then HAL.out hb)
  clear k0 k1 k2 u0 u1 u2
  clear hb
  have k0 := HA.out.c0
  have k1 := HA.out.c1
  have k2 := HA.out.c2
  have u0 := HBB.out.c0
  have u1 := HBB.out.c1
  have u2 := HBB.out.c2
  cases z1
  · go_wp2
    go_ret
    exact ⟨rfl, HAL.out⟩
  go_wp2_with fail
  refine (specEditOk_any A1 t c1 b' n B3 q d3 _ hc1 hc19 hd3 hd39 (by exact HX.out) (by exact HQ.out)).mono ?_
  rintro e w8 ⟨rfl, hb⟩
  rw [HZ2.out]
  have HA := Lib.hid (HA.out.below hb)
  have HBB := Lib.hid (HBB.out.below hb)
  have HX := Lib.hid (HX.out.below hb)
  have HY := Lib.hid (HY.out.below hb)
  have HQ := Lib.hid (HQ.out.below hb)
  have HAL := Lib.hid (below_then HAL.out hb)
  clear k0 k1 k2 u0 u1 u2
  clear hb
  have k0 := HA.out.c0
  have k1 := HA.out.c1
  have k2 := HA.out.c2
  have u0 := HBB.out.c0
  have u1 := HBB.out.c1
  have u2 := HBB.out.c2
  cases z2
  · go_wp2
    go_ret
    exact ⟨rfl, HAL.out⟩
  have hap := HZ.out
  have ho1 := HZ1.out
  have ho2 := HZ2.out
  have r1 := edOk_range ho1
  have r2 := edOk_range ho2
  obtain ⟨fa, hfa⟩ : ∃ x, moveA a m p b' n q = x := ⟨_, rfl⟩
  obtain ⟨fm, hfm⟩ : ∃ x, moveM a m p b' n q = x := ⟨_, rfl⟩
  obtain ⟨ga, hga⟩ : ∃ x, moveA b' n q a m p = x := ⟨_, rfl⟩
  obtain ⟨gm, hgm⟩ : ∃ x, moveM b' n q a m p = x := ⟨_, rfl⟩
  have hfp := (moveA_ok (edOk_move ho1 ho2)).2.2
  have hgp := (moveA_ok (edOk_move ho2 ho1)).2.2
  have hsame := apart_same ho1 ho2 hap
  rw [hfa, hfm, hga, hgm, hfp, hgp] at hsame
  have hmk1 := edOk_move ho1 ho2
  have hmk2 := edOk_move ho2 ho1
  obtain ⟨U, hU⟩ : ∃ U, edText t a m p = U := ⟨_, rfl⟩
  obtain ⟨V, hV⟩ : ∃ U, edText t b' n q = U := ⟨_, rfl⟩
  have hU4 := isText_len (edText_ok ho1)
  have hV4 := isText_len (edText_ok ho2)
  rw [hU] at hsame hU4
  rw [hV] at hsame hV4
  have dU : edDo t a m p = U := by rw [← hU]; unfold edDo; rw [ho1]; rfl
  have dV : edDo t b' n q = V := by rw [← hV]; unfold edDo; rw [ho2]; rfl
  obtain ⟨y3, h3⟩ : ∃ z, edOk U ga gm q = z := ⟨_, rfl⟩
  obtain ⟨y4, h4⟩ : ∃ z, edOk V fa fm p = z := ⟨_, rfl⟩
  obtain ⟨P, hPp⟩ : ∃ z, edDo U ga gm q = z := ⟨_, rfl⟩
  obtain ⟨Q, hQq⟩ : ∃ z, edDo V fa fm p = z := ⟨_, rfl⟩
  have hP4 : P.length ≤ 400 := by rw [← hPp]; exact edDo_len _ _ _ _
  have hQ4 : Q.length ≤ 400 := by rw [← hQq]; exact edDo_len _ _ _ _
  have hPQ : y3 = true → y4 = true → P = Q := fun g3 g4 => by
    rw [← hPp, ← hQq]; unfold edDo; rw [h3, h4, g3, g4]; exact hsame
  have HFA := Lib.hid hfa
  have HFM := Lib.hid hfm
  have HGA := Lib.hid hga
  have HGM := Lib.hid hgm
  have HFP := Lib.hid hfp
  have HGP := Lib.hid hgp
  have HM1 := Lib.hid hmk1
  have HM2 := Lib.hid hmk2
  have HDU := Lib.hid dU
  have HDV := Lib.hid dV
  have H3 := Lib.hid h3
  have H4 := Lib.hid h4
  have HPP := Lib.hid hPp
  have HQQ := Lib.hid hQq
  have HPQ := Lib.hid hPQ
  clear hap ho1 ho2 hfa hfm hga hgm hfp hgp hsame hmk1 hmk2 hU hV dU dV h3 h4 hPp hQq hPQ r1 r2
  go_wp2_with fail
  refine (implEditMove_any a m B1 p d1 b' n B3 q d3 _ hp9 hq9 (by exact HY.out)).mono ?_
  rintro e w9 ⟨v, rfl, hown, hb⟩
  rw [HFA.out, HFM.out, HM1.out]
  rw [HFP.out] at hown
  obtain ⟨fA, fc, rfl, fh, fk, hBv, _, _⟩ := own_plain9 hown
  have hal := (Below.refl w9.heap.size w9).alloc (Nat.le_refl _) (.cells #[.int .i64 fa, .int .i64 fm, .slice fA p.length fc] 27)
  have hb2 := below_then hb hal
  have HA := Lib.hid (HA.out.below hb2)
  have HBB := Lib.hid (HBB.out.below hb2)
  have HX := Lib.hid (HX.out.below hb2)
  have HY := Lib.hid (HY.out.below hb2)
  have HQ := Lib.hid (HQ.out.below hb2)
  have HAL := Lib.hid (below_then HAL.out hb2)
  have FB := Lib.hid (EBox.new w9 fa fm fA p.length fc)
  have FBY := Lib.hid (hBv.below hal)
  clear k0 k1 k2 u0 u1 u2
  clear hown hb hb2 hal hBv
  have k0 := HA.out.c0
  have k1 := HA.out.c1
  have k2 := HA.out.c2
  have u0 := HBB.out.c0
  have u1 := HBB.out.c1
  have u2 := HBB.out.c2
  go_wp2_with fail
  generalize w9.alloc (.cells #[.int .i64 fa, .int .i64 fm, .slice fA p.length fc] 27) = W9 at *
  refine (implEditMove_any b' n B3 q d3 a m B1 p d1 _ hq9 hp9 (by exact HQ.out)).mono ?_
  rintro e w10 ⟨v, rfl, hown, hb⟩
  rw [HGA.out, HGM.out, HM2.out]
  rw [HGP.out] at hown
  obtain ⟨gA, gc, rfl, gh, gk, hBv, _, _⟩ := own_plain9 hown
  have hal := (Below.refl w10.heap.size w10).alloc (Nat.le_refl _) (.cells #[.int .i64 ga, .int .i64 gm, .slice gA q.length gc] 27)
  have hb2 := below_then hb hal
  have HA := Lib.hid (HA.out.below hb2)
  have HBB := Lib.hid (HBB.out.below hb2)
  have HX := Lib.hid (HX.out.below hb2)
  have HY := Lib.hid (HY.out.below hb2)
  have HQ := Lib.hid (HQ.out.below hb2)
  have FB := Lib.hid (FB.out.below hb2)
  have FBY := Lib.hid (FBY.out.below hb2)
  have HAL := Lib.hid (below_then HAL.out hb2)
  have GB := Lib.hid (EBox.new w10 ga gm gA q.length gc)
  have GBY := Lib.hid (hBv.below hal)
  clear k0 k1 k2 u0 u1 u2
  clear hown hb hb2 hal hBv
  have k0 := HA.out.c0
  have k1 := HA.out.c1
  have k2 := HA.out.c2
  have u0 := HBB.out.c0
  have u1 := HBB.out.c1
  have u2 := HBB.out.c2
  go_wp2_with fail
  generalize w10.alloc (.cells #[.int .i64 ga, .int .i64 gm, .slice gA q.length gc] 27) = W10 at *
  refine (specEditDo_any A1 t c1 a m B1 p d1 _ hc1 hc19 hd1 hd19 hP1 (by exact HX.out) (by exact HY.out)).mono ?_
  rintro e w11 ⟨v, rfl, hown, hb⟩
  rw [HZ1.out]
  rw [HDU.out] at hown
  obtain ⟨uA, uAc, rfl, uAh, uAk, hBv, uAp, uAq⟩ := own_plain9 hown
  have uAP : Pl uA uAc := by unfold Pl; exact ⟨uAp, uAq⟩
  have HA := Lib.hid (HA.out.below hb)
  have HBB := Lib.hid (HBB.out.below hb)
  have HX := Lib.hid (HX.out.below hb)
  have HY := Lib.hid (HY.out.below hb)
  have HQ := Lib.hid (HQ.out.below hb)
  have FB := Lib.hid (FB.out.below hb)
  have FBY := Lib.hid (FBY.out.below hb)
  have GB := Lib.hid (GB.out.below hb)
  have GBY := Lib.hid (GBY.out.below hb)
  have HAL := Lib.hid (below_then HAL.out hb)
  have uAX := Lib.hid hBv
  clear k0 k1 k2 u0 u1 u2
  clear hown hb hBv
  have k0 := HA.out.c0
  have k1 := HA.out.c1
  have k2 := HA.out.c2
  have u0 := HBB.out.c0
  have u1 := HBB.out.c1
  have u2 := HBB.out.c2
  go_wp2_with fail
  refine (specEditDo_any A1 t c1 b' n B3 q d3 _ hc1 hc19 hd3 hd39 hP1 (by exact HX.out) (by exact HQ.out)).mono ?_
  rintro e w12 ⟨v, rfl, hown, hb⟩
  rw [HZ2.out]
  rw [HDV.out] at hown
  obtain ⟨vA, vAc, rfl, vAh, vAk, hBv, vAp, vAq⟩ := own_plain9 hown
  have vAP : Pl vA vAc := by unfold Pl; exact ⟨vAp, vAq⟩
  have HA := Lib.hid (HA.out.below hb)
  have HBB := Lib.hid (HBB.out.below hb)
  have HX := Lib.hid (HX.out.below hb)
  have HY := Lib.hid (HY.out.below hb)
  have HQ := Lib.hid (HQ.out.below hb)
  have FB := Lib.hid (FB.out.below hb)
  have FBY := Lib.hid (FBY.out.below hb)
  have GB := Lib.hid (GB.out.below hb)
  have GBY := Lib.hid (GBY.out.below hb)
  have uAX := Lib.hid (uAX.out.below hb)
  have HAL := Lib.hid (below_then HAL.out hb)
  have vAX := Lib.hid hBv
  clear k0 k1 k2 u0 u1 u2
  clear hown hb hBv
  have s0 := FB.out.c0
  have s1 := FB.out.c1
  have s2 := FB.out.c2
  have r0 := GB.out.c0
  have r1 := GB.out.c1
  have r2 := GB.out.c2
  go_wp2_with fail
  refine (specEditDo_any uA U uAc ga gm gA q gc _ uAh uAk gh gk uAP (by exact uAX.out) (by exact GBY.out)).mono ?_
  rintro e w13 ⟨v, rfl, hown, hb⟩
  rw [H3.out]
  rw [HPP.out] at hown
  obtain ⟨xA, xAc, rfl, xAh, xAk, hBv, xAp, xAq⟩ := own_plain9 hown
  have xAP : Pl xA xAc := by unfold Pl; exact ⟨xAp, xAq⟩
  have FB := Lib.hid (FB.out.below hb)
  have FBY := Lib.hid (FBY.out.below hb)
  have vAX := Lib.hid (vAX.out.below hb)
  have HAL := Lib.hid (below_then HAL.out hb)
  have xAX := Lib.hid hBv
  clear hown hb hBv s0 s1 s2 r0 r1 r2
  have s0 := FB.out.c0
  have s1 := FB.out.c1
  have s2 := FB.out.c2
  go_wp2_with fail
  refine (specEditDo_any vA V vAc fa fm fA p fc _ vAh vAk fh fk vAP (by exact vAX.out) (by exact FBY.out)).mono ?_
  rintro e w14 ⟨v, rfl, hown, hb⟩
  rw [H4.out]
  rw [HQQ.out] at hown
  obtain ⟨yA, yAc, rfl, yAh, yAk, hBv, yAp, yAq⟩ := own_plain9 hown
  have yAP : Pl yA yAc := by unfold Pl; exact ⟨yAp, yAq⟩
  have xAX := Lib.hid (xAX.out.below hb)
  have HAL := Lib.hid (below_then HAL.out hb)
  have yAX := Lib.hid hBv
  clear hown hb hBv s0 s1 s2
  cases y3
  · go_wp2
    go_ret
    exact ⟨rfl, HAL.out⟩
  cases y4
  · go_wp2
    go_ret
    exact ⟨rfl, HAL.out⟩
  have hpq := HPQ.out (by trivial) (by trivial)
  subst hpq
  have hcv1 := run_conv_bs xAc P.length rfl xAX.out
  have hcv2 := run_conv_bs yAc P.length rfl yAX.out
  go_wp2
  go_ret
  exact ⟨rfl, HAL.out⟩

end Go.Proofs.Ytoaimklllmelpaa.fnApart
