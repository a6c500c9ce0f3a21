/-
  FnMoved, its walk. Own work.
-/
import Derived.Test.YtkplfbhblbinaaaDoorLaw
import Derived.Test.YtkplfbhblbinaaaDoorJ09d
import Derived.Test.YtkplfbhblbinaaaDoorI08a
import Derived.Test.YtkplfbhblbinaaaDoorCur13
import Derived.Test.YtkplfbhblbinaaaDoorS08
import Derived.Test.YtkplfbhblbinaaaDoorP09b
import Derived.Deep.RegionHeld3
namespace Go.Proofs.YtkplfbhblbinaaaDoor.fnMoved
open Go.ChangeShapes Go.WideShapes Go.ChangeAt Go.RowKit P
set_option linter.unusedVariables false
set_option maxRecDepth 100000

set_option maxHeartbeats 16000000 in
theorem walk (A : Option Addr) (l : List UInt8) (c : Nat) (hc : l.length ≤ c) (hm : c ≤ maxLen) (w : World) (hB : Bs w A l) (hT : Tab w) :
    Calls Tryd.prog 7 #[.slice A l.length c] w fun e w' => e = .returned (.bool true) ∧ Below w.heap.size w w' := by
  by_cases hbig : 1048576 < l.length
  · have hb : decide (1048576 < l.length) = true := decide_eq_true hbig
    have HBG := Lib.hid hb
    clear hb hbig
    go_enter Tryd.func7, Tryd.ntmps7
    go_wp2_with (go_at_call 12; refine (big_any _ _ _ _).mono ?_; rintro e w' ⟨rfl, rfl⟩; rw [HBG.out])
    go_ret
    exact ⟨rfl, Below.refl _ _⟩
  have hl : l.length ≤ 1048576 := by omega
  have hb : decide (1048576 < l.length) = false := decide_eq_false hbig
  have HBG := Lib.hid hb
  clear hb hbig hc hm
  go_enter Tryd.func7, Tryd.ntmps7
  go_wp2_with fail
  refine (big_any _ _ _ _).mono ?_
  rintro e w0 ⟨rfl, rfl⟩
  rw [HBG.out]
  go_wp2_with fail
  refine (drawEditDo_any A l c _ hl (by exact hB)).mono ?_
  rintro e w1 ⟨A1, t, c1, a, m, B1, p, d1, rfl, ht4, hc1, hc19, hP1, hX1, ha, hm, hp5, hd1, hd19, hQ1, hY1, hb1⟩
  have hal := (Below.refl w1.heap.size w1).alloc (Nat.le_refl _) (.cells #[.int .i64 a, .int .i64 m, .slice B1 p.length d1] 25)
  have bE := EBox.new w1 a m B1 p.length d1
  have hX1 := hX1.below hal
  have hY1 := hY1.below hal
  have hb1 := below_then hb1 hal
  have hBL := hB.below hb1
  clear hal HBG
  go_wp2_with fail
  generalize w1.alloc (.cells #[.int .i64 a, .int .i64 m, .slice B1 p.length d1] 25) = W1 at *
  refine (drawEditBack_any A l c _ hl (by exact hBL)).mono ?_
  rintro e w3 ⟨A3, t3, c3, b, n, B3, q, d3, rfl, _, _, _, _, _, hbb, hnn, hq5, hd3, hd39, hQ3, hY3, hb3⟩
  have hal := (Below.refl w3.heap.size w3).alloc (Nat.le_refl _) (.cells #[.int .i64 b, .int .i64 n, .slice B3 q.length d3] 25)
  have hb3 := below_then hb3 hal
  have HA := Lib.hid (bE.below hb3)
  have HBB := Lib.hid (EBox.new w3 b n B3 q.length d3)
  have HX := Lib.hid (hX1.below hb3)
  have HY := Lib.hid (hY1.below hb3)
  have HQ := Lib.hid (hY3.below hal)
  have HAL := Lib.hid (below_then hb1 hb3)
  obtain ⟨z1, hz1⟩ : ∃ z, edOk t a m p = z := ⟨_, rfl⟩
  obtain ⟨z2, hz2⟩ : ∃ z, edOk t b n q = z := ⟨_, rfl⟩
  have HZ1 := Lib.hid hz1
  have HZ2 := Lib.hid hz2
  have hzz : (z1 == z1) = true := by simp
  have hp9 : p.length ≤ 9223372036854775807 := by omega
  have hq9 : q.length ≤ 9223372036854775807 := by omega
  clear hz1 hz2 hal hb3 hX1 hY1 hY3 hb1 hBL bE
  have k0 := HA.out.c0
  have k1 := HA.out.c1
  have k2 := HA.out.c2
  have u0 := HBB.out.c0
  have u1 := HBB.out.c1
  have u2 := HBB.out.c2
  go_wp2_with fail
  generalize w3.alloc (.cells #[.int .i64 b, .int .i64 n, .slice B3 q.length d3] 25) = W3 at *
  refine (specEditOk_any A1 t c1 a m B1 p d1 _ hc1 hc19 hd1 hd19 (by exact HX.out) (by exact HY.out)).mono ?_
  rintro e w4 ⟨rfl, hb⟩
  rw [HZ1.out]
  have HA := Lib.hid (HA.out.below hb)
  have HBB := Lib.hid (HBB.out.below hb)
  have HX := Lib.hid (HX.out.below hb)
  have HY := Lib.hid (HY.out.below hb)
  have HQ := Lib.hid (HQ.out.below hb)
  have HAL := Lib.hid (below_then HAL.out hb)
  clear k0 k1 k2 u0 u1 u2
  clear hb
  have k0 := HA.out.c0
  have k1 := HA.out.c1
  have k2 := HA.out.c2
  have u0 := HBB.out.c0
  have u1 := HBB.out.c1
  have u2 := HBB.out.c2
  cases z1
  · go_wp2_with fail
    refine wp_region_held_drew (S := (fun V => V.cell? ⟨w1.heap.size, 0, none⟩ = some (.int .i64 a) ∧ V.cell? ⟨w1.heap.size, 1, none⟩ = some (.int .i64 m) ∧ V.cell? ⟨w1.heap.size, 2, none⟩ = some (.slice B1 p.length d1))) (by kernel_rfl) (by exact ⟨k0, k1, k2⟩) (fun hHeld => ?_)
    clear k0 k1 k2 u0 u1 u2
    refine wpAnyH_take (i := 0) (oi := ?_) (v := ?_) ?_ ?_ ?_ ?_ ?_ ?_ (by exact hHeld) ?_
    rotate_left 2
    · (simp only [List.getElem?_toArray, List.getElem?_cons_zero]; try rfl)
    · kernel_rfl
    · kernel_rfl
    · kernel_rfl
    · exact fun _ _ _ h => h
    · refine Or.inl ⟨by rfl, ?_⟩
      (intro V hSV; (try dsimp only at hSV); obtain ⟨q0, q1, q2⟩ := hSV; go_simp; try with_reducible rfl)
    (try simp only [Act.put, List.setIfInBounds_toArray, List.set_cons_zero, List.set_cons_succ])
    refine wpAnyH_take (i := 1) (oi := ?_) (v := ?_) ?_ ?_ ?_ ?_ ?_ ?_ (by exact hHeld) ?_
    rotate_left 2
    · (simp only [List.getElem?_toArray, List.getElem?_cons_zero, List.getElem?_cons_succ]; try rfl)
    · kernel_rfl
    · kernel_rfl
    · kernel_rfl
    · exact fun _ _ _ h => h
    · refine Or.inl ⟨by rfl, ?_⟩
      (intro V hSV; (try dsimp only at hSV); obtain ⟨q0, q1, q2⟩ := hSV; go_simp; try with_reducible rfl)
    (try simp only [Act.put, List.setIfInBounds_toArray, List.set_cons_zero, List.set_cons_succ])
    refine wpAnyH_take (i := 3) (oi := ?_) (v := ?_) ?_ ?_ ?_ ?_ ?_ ?_ (by exact hHeld) ?_
    rotate_left 2
    · (simp only [List.getElem?_toArray, List.getElem?_cons_zero, List.getElem?_cons_succ]; try rfl)
    · kernel_rfl
    · kernel_rfl
    · kernel_rfl
    · exact fun _ _ _ h => h
    · refine Or.inl ⟨by rfl, ?_⟩
      (intro V hSV; (try dsimp only at hSV); obtain ⟨q0, q1, q2⟩ := hSV; go_simp; try with_reducible rfl)
    (try simp only [Act.put, List.setIfInBounds_toArray, List.set_cons_zero, List.set_cons_succ])
    refine wpAnyH_take (i := 4) (oi := ?_) (v := ?_) ?_ ?_ ?_ ?_ ?_ ?_ (by exact hHeld) ?_
    rotate_left 2
    · (simp only [List.getElem?_toArray, List.getElem?_cons_zero, List.getElem?_cons_succ]; try rfl)
    · kernel_rfl
    · kernel_rfl
    · kernel_rfl
    · exact fun _ _ _ h => h
    · refine Or.inl ⟨by rfl, ?_⟩
      (intro V hSV; (try dsimp only at hSV); obtain ⟨q0, q1, q2⟩ := hSV; go_simp; try with_reducible rfl)
    (try simp only [Act.put, List.setIfInBounds_toArray, List.set_cons_zero, List.set_cons_succ])
    refine wpAnyH_ready (rs := [2]) (by kernel_rfl) (by simp) ?_
    refine AllReadyH.cons rfl (fun K hK => ?_) AllReadyH.nil
    go_simp
    refine (implEditOk_any A1 t c1 a m B1 p d1 _ hc1 hc19 hd1 hd19 hm.2 (by have h9 := hT.below HAL.out; exact h9) (by exact HX.out) (by exact HY.out)).mono ?_
    rintro e v4 ⟨rfl, hb⟩
    rw [HZ1.out]
    have hb : Below w4.heap.size w4 v4 := ⟨hb.os, hb.tape, hb.output, hb.size, hb.block⟩
    have Hv4 := Lib.hid hb
    clear hb
    go_wp2_with fail
    refine hK.out _ _ (by exact ⟨(HA.out.below Hv4.out).c0, (HA.out.below Hv4.out).c1, (HA.out.below Hv4.out).c2⟩) (fun hHeld => ?_)
    clear hK K
    (try simp only [Act.put, List.setIfInBounds_toArray, List.set_cons_zero, List.set_cons_succ])
    refine wpAnyH_ready (rs := [5]) (by kernel_rfl) (by simp) ?_
    refine AllReadyH.cons rfl (fun K hK => ?_) AllReadyH.nil
    go_simp
    refine (specEditOk_any A1 t c1 a m B1 p d1 _ hc1 hc19 hd1 hd19 (by exact HX.out.below Hv4.out) (by exact HY.out.below Hv4.out)).mono ?_
    rintro e v5 ⟨rfl, hb⟩
    rw [HZ1.out]
    have hb : Below v4.heap.size v4 v5 := ⟨hb.os, hb.tape, hb.output, hb.size, hb.block⟩
    have Hv5 := Lib.hid (below_then Hv4.out hb)
    clear hb
    go_wp2_with fail
    refine hK.out _ _ (by exact ⟨(HA.out.below Hv5.out).c0, (HA.out.below Hv5.out).c1, (HA.out.below Hv5.out).c2⟩) (fun hHeld => ?_)
    clear hK K
    (try simp only [Act.put, List.setIfInBounds_toArray, List.set_cons_zero, List.set_cons_succ])
    refine wpAnyH_take (i := 6) (oi := ?_) (v := ?_) ?_ ?_ ?_ ?_ ?_ ?_ (by exact hHeld) ?_
    rotate_left 2
    · (simp only [List.getElem?_toArray, List.getElem?_cons_zero, List.getElem?_cons_succ]; try rfl)
    · kernel_rfl
    · kernel_rfl
    · kernel_rfl
    · exact fun _ _ _ h => h
    · refine Or.inl ⟨by rfl, ?_⟩
      (intro V hSV; (try dsimp only at hSV); obtain ⟨q0, q1, q2⟩ := hSV; go_simp; try with_reducible rfl)
    (try simp only [Act.put, List.setIfInBounds_toArray, List.set_cons_zero, List.set_cons_succ])
    refine wpAnyH_take (i := 7) (oi := ?_) (v := ?_) ?_ ?_ ?_ ?_ ?_ ?_ (by exact hHeld) ?_
    rotate_left 2
    · (simp only [List.getElem?_toArray, List.getElem?_cons_zero, List.getElem?_cons_succ]; try rfl)
    · kernel_rfl
    · kernel_rfl
    · kernel_rfl
    · exact fun _ _ _ h => h
    · refine Or.inl ⟨by rfl, ?_⟩
      (intro V hSV; (try dsimp only at hSV); obtain ⟨q0, q1, q2⟩ := hSV; go_simp; try with_reducible rfl)
    (try simp only [Act.put, List.setIfInBounds_toArray, List.set_cons_zero, List.set_cons_succ])
    refine wpAnyH_done (by kernel_rfl) ?_ _
    have hb9 := below_then HAL.out Hv5.out
    go_wp2
    go_ret
    exact ⟨rfl, hb9⟩
  go_wp2_with fail
  refine (specEditOk_any A1 t c1 b n B3 q d3 _ hc1 hc19 hd3 hd39 (by exact HX.out) (by exact HQ.out)).mono ?_
  rintro e w5 ⟨rfl, hb⟩
  rw [HZ2.out]
  have HA := Lib.hid (HA.out.below hb)
  have HBB := Lib.hid (HBB.out.below hb)
  have HX := Lib.hid (HX.out.below hb)
  have HY := Lib.hid (HY.out.below hb)
  have HQ := Lib.hid (HQ.out.below hb)
  have HAL := Lib.hid (below_then HAL.out hb)
  clear k0 k1 k2 u0 u1 u2
  clear hb
  have k0 := HA.out.c0
  have k1 := HA.out.c1
  have k2 := HA.out.c2
  have u0 := HBB.out.c0
  have u1 := HBB.out.c1
  have u2 := HBB.out.c2
  cases z2
  · go_wp2_with fail
    refine wp_region_held_drew (S := (fun V => V.cell? ⟨w1.heap.size, 0, none⟩ = some (.int .i64 a) ∧ V.cell? ⟨w1.heap.size, 1, none⟩ = some (.int .i64 m) ∧ V.cell? ⟨w1.heap.size, 2, none⟩ = some (.slice B1 p.length d1))) (by kernel_rfl) (by exact ⟨k0, k1, k2⟩) (fun hHeld => ?_)
    clear k0 k1 k2 u0 u1 u2
    refine wpAnyH_take (i := 0) (oi := ?_) (v := ?_) ?_ ?_ ?_ ?_ ?_ ?_ (by exact hHeld) ?_
    rotate_left 2
    · (simp only [List.getElem?_toArray, List.getElem?_cons_zero]; try rfl)
    · kernel_rfl
    · kernel_rfl
    · kernel_rfl
    · exact fun _ _ _ h => h
    · refine Or.inl ⟨by rfl, ?_⟩
      (intro V hSV; (try dsimp only at hSV); obtain ⟨q0, q1, q2⟩ := hSV; go_simp; try with_reducible rfl)
    (try simp only [Act.put, List.setIfInBounds_toArray, List.set_cons_zero, List.set_cons_succ])
    refine wpAnyH_take (i := 1) (oi := ?_) (v := ?_) ?_ ?_ ?_ ?_ ?_ ?_ (by exact hHeld) ?_
    rotate_left 2
    · (simp only [List.getElem?_toArray, List.getElem?_cons_zero, List.getElem?_cons_succ]; try rfl)
    · kernel_rfl
    · kernel_rfl
    · kernel_rfl
    · exact fun _ _ _ h => h
    · refine Or.inl ⟨by rfl, ?_⟩
      (intro V hSV; (try dsimp only at hSV); obtain ⟨q0, q1, q2⟩ := hSV; go_simp; try with_reducible rfl)
    (try simp only [Act.put, List.setIfInBounds_toArray, List.set_cons_zero, List.set_cons_succ])
    refine wpAnyH_take (i := 3) (oi := ?_) (v := ?_) ?_ ?_ ?_ ?_ ?_ ?_ (by exact hHeld) ?_
    rotate_left 2
    · (simp only [List.getElem?_toArray, List.getElem?_cons_zero, List.getElem?_cons_succ]; try rfl)
    · kernel_rfl
    · kernel_rfl
    · kernel_rfl
    · exact fun _ _ _ h => h
    · refine Or.inl ⟨by rfl, ?_⟩
      (intro V hSV; (try dsimp only at hSV); obtain ⟨q0, q1, q2⟩ := hSV; go_simp; try with_reducible rfl)
    (try simp only [Act.put, List.setIfInBounds_toArray, List.set_cons_zero, List.set_cons_succ])
    refine wpAnyH_take (i := 4) (oi := ?_) (v := ?_) ?_ ?_ ?_ ?_ ?_ ?_ (by exact hHeld) ?_
    rotate_left 2
    · (simp only [List.getElem?_toArray, List.getElem?_cons_zero, List.getElem?_cons_succ]; try rfl)
    · kernel_rfl
    · kernel_rfl
    · kernel_rfl
    · exact fun _ _ _ h => h
    · refine Or.inl ⟨by rfl, ?_⟩
      (intro V hSV; (try dsimp only at hSV); obtain ⟨q0, q1, q2⟩ := hSV; go_simp; try with_reducible rfl)
    (try simp only [Act.put, List.setIfInBounds_toArray, List.set_cons_zero, List.set_cons_succ])
    refine wpAnyH_ready (rs := [2]) (by kernel_rfl) (by simp) ?_
    refine AllReadyH.cons rfl (fun K hK => ?_) AllReadyH.nil
    go_simp
    refine (implEditOk_any A1 t c1 a m B1 p d1 _ hc1 hc19 hd1 hd19 hm.2 (by have h9 := hT.below HAL.out; exact h9) (by exact HX.out) (by exact HY.out)).mono ?_
    rintro e v4 ⟨rfl, hb⟩
    rw [HZ1.out]
    have hb : Below w5.heap.size w5 v4 := ⟨hb.os, hb.tape, hb.output, hb.size, hb.block⟩
    have Hv4 := Lib.hid hb
    clear hb
    go_wp2_with fail
    refine hK.out _ _ (by exact ⟨(HA.out.below Hv4.out).c0, (HA.out.below Hv4.out).c1, (HA.out.below Hv4.out).c2⟩) (fun hHeld => ?_)
    clear hK K
    (try simp only [Act.put, List.setIfInBounds_toArray, List.set_cons_zero, List.set_cons_succ])
    refine wpAnyH_ready (rs := [5]) (by kernel_rfl) (by simp) ?_
    refine AllReadyH.cons rfl (fun K hK => ?_) AllReadyH.nil
    go_simp
    refine (specEditOk_any A1 t c1 a m B1 p d1 _ hc1 hc19 hd1 hd19 (by exact HX.out.below Hv4.out) (by exact HY.out.below Hv4.out)).mono ?_
    rintro e v5 ⟨rfl, hb⟩
    rw [HZ1.out]
    have hb : Below v4.heap.size v4 v5 := ⟨hb.os, hb.tape, hb.output, hb.size, hb.block⟩
    have Hv5 := Lib.hid (below_then Hv4.out hb)
    clear hb
    go_wp2_with fail
    refine hK.out _ _ (by exact ⟨(HA.out.below Hv5.out).c0, (HA.out.below Hv5.out).c1, (HA.out.below Hv5.out).c2⟩) (fun hHeld => ?_)
    clear hK K
    (try simp only [Act.put, List.setIfInBounds_toArray, List.set_cons_zero, List.set_cons_succ])
    refine wpAnyH_take (i := 6) (oi := ?_) (v := ?_) ?_ ?_ ?_ ?_ ?_ ?_ (by exact hHeld) ?_
    rotate_left 2
    · (simp only [List.getElem?_toArray, List.getElem?_cons_zero, List.getElem?_cons_succ]; try rfl)
    · kernel_rfl
    · kernel_rfl
    · kernel_rfl
    · exact fun _ _ _ h => h
    · refine Or.inl ⟨by rfl, ?_⟩
      (intro V hSV; (try dsimp only at hSV); obtain ⟨q0, q1, q2⟩ := hSV; go_simp; try with_reducible rfl)
    (try simp only [Act.put, List.setIfInBounds_toArray, List.set_cons_zero, List.set_cons_succ])
    refine wpAnyH_take (i := 7) (oi := ?_) (v := ?_) ?_ ?_ ?_ ?_ ?_ ?_ (by exact hHeld) ?_
    rotate_left 2
    · (simp only [List.getElem?_toArray, List.getElem?_cons_zero, List.getElem?_cons_succ]; try rfl)
    · kernel_rfl
    · kernel_rfl
    · kernel_rfl
    · exact fun _ _ _ h => h
    · refine Or.inl ⟨by rfl, ?_⟩
      (intro V hSV; (try dsimp only at hSV); obtain ⟨q0, q1, q2⟩ := hSV; go_simp; try with_reducible rfl)
    (try simp only [Act.put, List.setIfInBounds_toArray, List.set_cons_zero, List.set_cons_succ])
    refine wpAnyH_done (by kernel_rfl) ?_ _
    have hb9 := below_then HAL.out Hv5.out
    go_wp2
    go_ret
    exact ⟨rfl, hb9⟩
  have ho1 := HZ1.out
  have ho2 := HZ2.out
  have r1 := edOk_range ho1
  have r2 := edOk_range ho2
  obtain ⟨fa, hfa⟩ : ∃ x, moveA a m p b n q = x := ⟨_, rfl⟩
  obtain ⟨fm, hfm⟩ : ∃ x, moveM a m p b n q = x := ⟨_, rfl⟩
  have hfp := (moveA_ok (edOk_move ho1 ho2)).2.2
  have hmk := edOk_move ho1 ho2
  have hbd := moved_bounds ho1 ho2
  obtain ⟨V, hV⟩ : ∃ U, edText t b n q = U := ⟨_, rfl⟩
  have hVt : isText V = true := by rw [← hV]; exact edText_ok ho2
  have hV4 := isText_len hVt
  rw [hfa, hfm, hV] at hbd
  have q1 := isBound_range hbd.1
  have q2 := isBound_range hbd.2.1
  have g1 : cutOk V fa = true := by unfold cutOk; rw [hVt, hbd.1]; rfl
  have g2 : cutOk V (fa + fm) = true := by unfold cutOk; rw [hVt, hbd.2.1]; rfl
  have hfm0 : 0 ≤ fm := hbd.2.2
  have hwr : IntKind.i64.wrap (fa + fm) = fa + fm := IntWalk.i64_in _ ⟨by omega, by omega⟩
  have dV : edDo t b n q = V := by rw [← hV]; unfold edDo; rw [ho2]; rfl
  have HFA := Lib.hid hfa
  have HFM := Lib.hid hfm
  have HFP := Lib.hid hfp
  have HM := Lib.hid hmk
  have HDV := Lib.hid dV
  have G1 := Lib.hid g1
  have G2 := Lib.hid g2
  clear ho1 ho2 r1 r2 hfa hfm hfp hmk hbd hV hVt dV g1 g2 q1 q2 hzz
  go_wp2_with fail
  refine (specEditDo_any A1 t c1 b n B3 q d3 _ hc1 hc19 hd3 hd39 hP1 (by exact HX.out) (by exact HQ.out)).mono ?_
  rintro e w6 ⟨v, rfl, hown, hb⟩
  rw [HZ2.out]
  rw [HDV.out] at hown
  obtain ⟨uA, uc, rfl, uh, uk, hBv, up, uq⟩ := own_plain9 hown
  have HA := Lib.hid (HA.out.below hb)
  have HBB := Lib.hid (HBB.out.below hb)
  have HX := Lib.hid (HX.out.below hb)
  have HY := Lib.hid (HY.out.below hb)
  have HQ := Lib.hid (HQ.out.below hb)
  have HAL := Lib.hid (below_then HAL.out hb)
  have HU := Lib.hid hBv
  clear k0 k1 k2 u0 u1 u2
  clear hb hBv hown HX
  have k0 := HA.out.c0
  have k1 := HA.out.c1
  have k2 := HA.out.c2
  have u0 := HBB.out.c0
  have u1 := HBB.out.c1
  have u2 := HBB.out.c2
  go_wp2_with fail
  refine (implEditMove_any a m B1 p d1 b n B3 q d3 _ hp9 hq9 (by exact HY.out)).mono ?_
  rintro e w7 ⟨v, rfl, hown, hb⟩
  rw [HFA.out, HFM.out, HM.out]
  rw [HFP.out] at hown
  obtain ⟨fA, fc, rfl, fh, fk, hBv, _, _⟩ := own_plain9 hown
  have hal := (Below.refl w7.heap.size w7).alloc (Nat.le_refl _) (.cells #[.int .i64 fa, .int .i64 fm, .slice fA p.length fc] 25)
  have hb2 := below_then hb hal
  have HA := Lib.hid (HA.out.below hb2)
  have HBB := Lib.hid (HBB.out.below hb2)
  have HY := Lib.hid (HY.out.below hb2)
  have HU := Lib.hid (HU.out.below hb2)
  have HAL := Lib.hid (below_then HAL.out hb2)
  have FB := Lib.hid (EBox.new w7 fa fm fA p.length fc)
  have FBY := Lib.hid (hBv.below hal)
  clear k0 k1 k2 u0 u1 u2
  clear hown hb hb2 hal hBv
  have k0 := HA.out.c0
  have k1 := HA.out.c1
  have k2 := HA.out.c2
  have u0 := HBB.out.c0
  have u1 := HBB.out.c1
  have u2 := HBB.out.c2
  go_wp2_with fail
  generalize w7.alloc (.cells #[.int .i64 fa, .int .i64 fm, .slice fA p.length fc] 25) = W7 at *
  refine (specEditMove_any a m B1 p d1 b n B3 q d3 _ hp9 hq9 (by exact HY.out)).mono ?_
  rintro e w8 ⟨v, rfl, hown, hb⟩
  rw [HFA.out, HFM.out, HM.out]
  rw [HFP.out] at hown
  obtain ⟨gA, gc, rfl, gh, gk, hBv, _, _⟩ := own_plain9 hown
  have hal := (Below.refl w8.heap.size w8).alloc (Nat.le_refl _) (.cells #[.int .i64 fa, .int .i64 fm, .slice gA p.length gc] 25)
  have hb2 := below_then hb hal
  have HA := Lib.hid (HA.out.below hb2)
  have HBB := Lib.hid (HBB.out.below hb2)
  have HY := Lib.hid (HY.out.below hb2)
  have HU := Lib.hid (HU.out.below hb2)
  have FB := Lib.hid (FB.out.below hb2)
  have FBY := Lib.hid (FBY.out.below hb2)
  have HAL := Lib.hid (below_then HAL.out hb2)
  have GB := Lib.hid (EBox.new w8 fa fm gA p.length gc)
  have GBY := Lib.hid (hBv.below hal)
  clear k0 k1 k2 u0 u1 u2
  clear hown hb hb2 hal hBv
  have k0 := HA.out.c0
  have k1 := HA.out.c1
  have k2 := HA.out.c2
  have u0 := HBB.out.c0
  have u1 := HBB.out.c1
  have u2 := HBB.out.c2
  have s0 := FB.out.c0
  have s1 := FB.out.c1
  have s2 := FB.out.c2
  have r0 := GB.out.c0
  have r1 := GB.out.c1
  have r2 := GB.out.c2
  go_wp2_with fail
  generalize w8.alloc (.cells #[.int .i64 fa, .int .i64 fm, .slice gA p.length gc] 25) = W8 at *
  refine (sameEdit_any fa fm fA gA p fc gc _ (by exact FBY.out) (by exact GBY.out)).mono ?_
  rintro e w9 ⟨rfl, hb⟩
  have HA := Lib.hid (HA.out.below hb)
  have HY := Lib.hid (HY.out.below hb)
  have HU := Lib.hid (HU.out.below hb)
  have FB := Lib.hid (FB.out.below hb)
  have FBY := Lib.hid (FBY.out.below hb)
  have HAL := Lib.hid (below_then HAL.out hb)
  clear hb s0 s1 s2 r0 r1 r2 k0 k1 k2 u0 u1 u2
  have s0 := FB.out.c0
  have s1 := FB.out.c1
  have s2 := FB.out.c2
  go_wp2_with fail
  refine (cutOk_any uA V uc fa _ uh uk (by exact hT.below HAL.out) (by exact HU.out)).mono ?_
  rintro e w10 ⟨rfl, n10, rfl⟩
  rw [G1.out]
  have hb := below_drewN (Below.refl w9.heap.size w9) n10
  have HA := Lib.hid (HA.out.below hb)
  have HY := Lib.hid (HY.out.below hb)
  have HU := Lib.hid (HU.out.below hb)
  have FB := Lib.hid (FB.out.below hb)
  have FBY := Lib.hid (FBY.out.below hb)
  have HAL := Lib.hid (below_then HAL.out hb)
  generalize w9.drewN n10 = w10 at *
  clear hb s0 s1 s2
  have s0 := FB.out.c0
  have s1 := FB.out.c1
  have s2 := FB.out.c2
  go_wp2_with fail
  refine (cutOk_any uA V uc (fa + fm) _ uh uk (by exact hT.below HAL.out) (by exact HU.out)).mono ?_
  rintro e w11 ⟨rfl, n11, rfl⟩
  rw [G2.out]
  have hb := below_drewN (Below.refl w10.heap.size w10) n11
  have HA := Lib.hid (HA.out.below hb)
  have HY := Lib.hid (HY.out.below hb)
  have FB := Lib.hid (FB.out.below hb)
  have FBY := Lib.hid (FBY.out.below hb)
  have HAL := Lib.hid (below_then HAL.out hb)
  generalize w10.drewN n11 = w11 at *
  clear hb s0 s1 s2
  have s0 := FB.out.c0
  have s1 := FB.out.c1
  have s2 := FB.out.c2
  have k0 := HA.out.c0
  have k1 := HA.out.c1
  have k2 := HA.out.c2
  have hcv1 := run_conv_bs fc p.length rfl FBY.out
  have hcv2 := run_conv_bs d1 p.length rfl HY.out
  go_wp2
  go_ret
  exact ⟨rfl, HAL.out⟩

end Go.Proofs.YtkplfbhblbinaaaDoor.fnMoved
