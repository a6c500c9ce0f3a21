/-
  FnExactLeaseMoved, its walk. Own work.
-/
import Derived.Test.YtdmmdbapkogdhaaLaw0
import Derived.Test.YtdmmdbapkogdhaaC05b
import Derived.Test.YtdmmdbapkogdhaaC10
import Derived.Test.YtdmmdbapkogdhaaS10
import Derived.Test.YtdmmdbapkogdhaaI30
import Derived.ProofKit
import Derived.OpenShut
import Derived.OpenVars
import Derived.ChangeOld
import Derived.Deep.DeepHandedRow
import Derived.Deep.RegionHeld3
import Derived.Deep.DeepCutAuto
namespace Go.Proofs.Ytdmmdbapkogdhaa.fnExactLeaseMoved
open Go.ChangeShapes Go.WideShapes Go.ChangeAt Go.RowKit P
set_option linter.unusedVariables false
set_option maxRecDepth 100000

set_option maxHeartbeats 16000000 in
theorem walk (A0 : Option Addr) (l0 : List Le) (c0 : Nat) (hc0 : l0.length ≤ c0) (hm0 : c0 ≤ maxLen) (a1 m1 : Int) (ha1 : -9223372036854775808 ≤ a1 ∧ a1 ≤ 9223372036854775807) (hn1 : -9223372036854775808 ≤ m1 ∧ m1 ≤ 9223372036854775807) (A1 : Option Addr) (l1 : List UInt8) (c1 : Nat) (hc1 : l1.length ≤ c1) (hm1 : c1 ≤ maxLen) (w : World) (hL0 : Ll w A0 l0) (hL1 : Bs w A1 l1) :
    Calls Try.prog 15 #[.slice A0 l0.length c0, .agg #[.int .i64 a1, .int .i64 m1, .slice A1 l1.length c1]] w fun e w' => e = .returned (.bool true) ∧ Below w.heap.size w w' := by
  have hn90 : l0.length ≤ 9223372036854775807 := by unfold maxLen at hm0; omega
  have hn91 : l1.length ≤ 9223372036854775807 := by unfold maxLen at hm1; omega
  clear hc0 hm0 hc1 hm1
  have BA1 := Blk.new w #[.int .i64 a1, .int .i64 m1, .slice A1 l1.length c1] 76
  have BA1 := Lib.hid BA1
  have hb0 := ((Below.refl w.heap.size w).alloc (Nat.le_refl _) (.cells #[.int .i64 a1, .int .i64 m1, .slice A1 l1.length c1] 76))
  obtain ⟨R, hRe⟩ : ∃ R, movedL l0 a1 m1 l1 = R := ⟨_, rfl⟩
  have hRl : R.length ≤ 1000000 := by rw [← hRe]; exact movedL_len l0 a1 m1 l1
  have HRE := Lib.hid hRe
  clear hRe
  go_enter Try.func15, Try.ntmps15
  go_wp2_with fail
  generalize w.alloc (.cells #[.int .i64 a1, .int .i64 m1, .slice A1 l1.length c1] 76) = W0 at *
  have HB := Lib.hid hb0
  clear hb0
  have HL0 := Lib.hid (hL0.below HB.out)
  refine (szLeaseS_b A0 l0 c0 1048576 _ hn90 (by omega) (by omega) (by exact HL0.out)).mono ?_
  rintro e s0 ⟨⟨r0, rfl, hr0⟩, hb1⟩
  have BA1 := Lib.hid (BA1.out.below hb1)
  have HB := Lib.hid (below_then HB.out hb1)
  clear hb1 HL0
  by_cases hneg0 : r0 < 0
  · go_wp2
    go_ret
    exact ⟨rfl, HB.out⟩
  have q10 := BA1.out.cell 0
  have q11 := BA1.out.cell 1
  have q12 := BA1.out.cell 2
  go_wp2_with fail
  refine (szEdit_any a1 m1 A1 l1.length c1 r0 _ hn91 (by omega) (by omega)).mono ?_
  rintro e s1 ⟨⟨r1, rfl, hr1⟩, hb1⟩
  have BA1 := Lib.hid (BA1.out.below hb1)
  have HB := Lib.hid (below_then HB.out hb1)
  clear hb1 q10 q11 q12
  by_cases hneg1 : r1 < 0
  · go_wp2
    go_ret
    exact ⟨rfl, HB.out⟩
  have hl1 : l1.length ≤ 1048576 := by omega
  have hl0 : l0.length ≤ 1048576 := by omega
  clear hr1 hr0
  have zA : w.heap.size + 0 < s1.heap.size := BA1.out.lt
  have mL0 := Lib.hid (hL0.below HB.out)
  have mL1 := Lib.hid (hL1.below HB.out)
  have mp1 : s1.cell? ⟨w.heap.size, 0, none⟩ = some (.int .i64 a1) := BA1.out.cell 0
  have mq1 : s1.cell? ⟨w.heap.size, 1, none⟩ = some (.int .i64 m1) := BA1.out.cell 1
  have mr1 : s1.cell? ⟨w.heap.size, 2, none⟩ = some (.slice A1 l1.length c1) := BA1.out.cell 2
  have mz1 := BA1.out.lt
  go_wp2_with fail
  refine wp_region_held_drew (S := (fun V => V.cell? ⟨w.heap.size, 0, none⟩ = some (.int .i64 a1) ∧ V.cell? ⟨w.heap.size, 1, none⟩ = some (.int .i64 m1) ∧ V.cell? ⟨w.heap.size, 2, none⟩ = some (.slice A1 l1.length c1))) (by kernel_rfl) (by exact ⟨mp1, mq1, mr1⟩) (fun hHeld => ?_)
  refine wpAnyH_take (i := 0) (oi := ?_) (v := ?_) ?_ ?_ ?_ ?_ ?_ ?_ (by exact hHeld) ?_
  rotate_left 2
  · (simp only [List.getElem?_toArray, List.getElem?_cons_zero]; try rfl)
  · kernel_rfl
  · kernel_rfl
  · kernel_rfl
  · exact fun _ _ _ h => h
  · refine Or.inl ⟨by rfl, ?_⟩
    (intro V hSV; (try dsimp only at hSV); obtain ⟨q0, q1, q2⟩ := hSV; go_simp; try with_reducible rfl)
  (try simp only [Act.put, List.setIfInBounds_toArray, List.set_cons_zero, List.set_cons_succ])
  refine wpAnyH_take (i := 2) (oi := ?_) (v := ?_) ?_ ?_ ?_ ?_ ?_ ?_ (by exact hHeld) ?_
  rotate_left 2
  · (simp only [List.getElem?_toArray, List.getElem?_cons_zero, List.getElem?_cons_succ]; try rfl)
  · kernel_rfl
  · kernel_rfl
  · kernel_rfl
  · exact fun _ _ _ h => h
  · refine Or.inl ⟨by rfl, ?_⟩
    (intro V hSV; (try dsimp only at hSV); obtain ⟨q0, q1, q2⟩ := hSV; go_simp; try with_reducible rfl)
  (try simp only [Act.put, List.setIfInBounds_toArray, List.set_cons_zero, List.set_cons_succ])
  refine wpAnyH_ready (rs := [1]) (by kernel_rfl) (by simp) ?_
  refine AllReadyH.cons rfl (fun K hK => ?_) AllReadyH.nil
  go_simp
  refine (toLeaseS_any A0 l0 c0 _ hl0 (by exact mL0.out)).mono ?_
  rintro e my1 hgv
  obtain ⟨mA0, mc0, mf0, rfl, hoe, hb⟩ := gives_leases hgv
  have hb : Below s1.heap.size s1 my1 := ⟨hb.os, hb.tape, hb.output, hb.size, hb.block⟩
  have mL0 := Lib.hid (mL0.out.below hb)
  have mL1 := Lib.hid (mL1.out.below hb)
  have mX0 := Lib.hid hoe.ll
  have mD0 := hoe.cap
  have mHB1 := Lib.hid hb
  clear hgv hoe hb
  go_wp2_with fail
  refine hK.out _ _ (by exact ⟨((mHB1.out).cell (p := ⟨w.heap.size, 0, none⟩) mz1).trans mp1, ((mHB1.out).cell (p := ⟨w.heap.size, 1, none⟩) mz1).trans mq1, ((mHB1.out).cell (p := ⟨w.heap.size, 2, none⟩) mz1).trans mr1⟩) (fun hHeld => ?_)
  clear hK K
  (try simp only [Act.put, List.setIfInBounds_toArray, List.set_cons_zero, List.set_cons_succ])
  refine wpAnyH_ready (rs := [3]) (by kernel_rfl) (by simp) ?_
  refine AllReadyH.cons rfl (fun K hK => ?_) AllReadyH.nil
  go_simp
  refine (toEdit_any a1 m1 A1 l1 c1 _ hl1 (by exact mL1.out)).mono ?_
  rintro e my2 ⟨v, rfl, hown, hb⟩
  obtain ⟨mA1, mc1, rfl, mhc1, mhk1, _⟩ := own_plain9 hown
  have hb : Below my1.heap.size my1 my2 := ⟨hb.os, hb.tape, hb.output, hb.size, hb.block⟩
  have mL0 := Lib.hid (mL0.out.below hb)
  have mL1 := Lib.hid (mL1.out.below hb)
  have mX0 := Lib.hid (mX0.out.below hb)
  have mX1 := Lib.hid (own_bs9 hown)
  have mHB2 := Lib.hid (below_then mHB1.out hb)
  clear hown hb
  go_wp2_with fail
  refine hK.out _ _ (by exact ⟨((mHB2.out).cell (p := ⟨w.heap.size, 0, none⟩) mz1).trans mp1, ((mHB2.out).cell (p := ⟨w.heap.size, 1, none⟩) mz1).trans mq1, ((mHB2.out).cell (p := ⟨w.heap.size, 2, none⟩) mz1).trans mr1⟩) (fun hHeld => ?_)
  clear hK K
  (try simp only [Act.put, List.setIfInBounds_toArray, List.set_cons_zero, List.set_cons_succ])
  refine wpAnyH_ready (rs := [4]) (by kernel_rfl) (by simp) ?_
  refine AllReadyH.cons rfl (fun K hK => ?_) AllReadyH.nil
  go_simp
  refine (specLeaseMoved_any mA0 l0 mc0 a1 m1 mA1 l1 mc1 _ hl0 hn91 (by exact mX0.out)).mono ?_
  rintro e my3 ⟨v, rfl, hown, hb⟩
  rw [HRE.out] at hown
  have hb : Below my2.heap.size my2 my3 := ⟨hb.os, hb.tape, hb.output, hb.size, hb.block⟩
  have mHB3 := Lib.hid (below_then mHB2.out hb)
  obtain ⟨oA, oc, rfl, hOL⟩ := hown.owL
  have oO := Lib.hid hOL
  clear hown hb hOL
  go_wp2_with fail
  refine hK.out _ _ (by exact ⟨((mHB3.out).cell (p := ⟨w.heap.size, 0, none⟩) mz1).trans mp1, ((mHB3.out).cell (p := ⟨w.heap.size, 1, none⟩) mz1).trans mq1, ((mHB3.out).cell (p := ⟨w.heap.size, 2, none⟩) mz1).trans mr1⟩) (fun hHeld => ?_)
  clear hK K
  (try simp only [Act.put, List.setIfInBounds_toArray, List.set_cons_zero, List.set_cons_succ])
  refine wpAnyH_take (i := 5) (oi := ?_) (v := ?_) ?_ ?_ ?_ ?_ ?_ ?_ (by exact hHeld) ?_
  rotate_left 2
  · (simp only [List.getElem?_toArray, List.getElem?_cons_zero, List.getElem?_cons_succ]; try rfl)
  · kernel_rfl
  · kernel_rfl
  · kernel_rfl
  · exact fun _ _ _ h => h
  · refine Or.inl ⟨by rfl, ?_⟩
    (intro V hSV; (try dsimp only at hSV); obtain ⟨q0, q1, q2⟩ := hSV; go_simp; try with_reducible rfl)
  (try simp only [Act.put, List.setIfInBounds_toArray, List.set_cons_zero, List.set_cons_succ])
  refine wpAnyH_done (by kernel_rfl) ?_ _
  clear hHeld mp1 mq1 mr1 mz1
  have hb := mHB3.out
  have BA1 := Lib.hid (BA1.out.below hb)
  have HB := Lib.hid (below_then HB.out hb)
  have zw0 := mHB2.out.size
  have zw : s1.heap.size ≤ my3.heap.size := mHB3.out.size
  have RW := Lib.hid oO.out.range
  clear hb mL0 mL1 mHB1 mX0 mD0 mHB2 mX1 mhc1 mhk1 mHB3
  have HL0 := Lib.hid (hL0.below HB.out)
  go_wp2_with fail
  refine (toLeaseS_any A0 l0 c0 _ hl0 (by exact HL0.out)).mono ?_
  rintro e x0 hgv
  obtain ⟨xA0, xc0, xf0, rfl, hoe, hb⟩ := gives_leases hgv
  have z0 := hb.size
  have RX0 := Lib.hid hoe.range
  have BA1 := Lib.hid (BA1.out.below hb)
  have oO := Lib.hid (oO.out.below hb)
  have HB := Lib.hid (below_then HB.out hb)
  have X0 := Lib.hid hoe
  clear hgv hoe hb HL0
  have q10 := BA1.out.cell 0
  have q11 := BA1.out.cell 1
  have q12 := BA1.out.cell 2
  have HL1 := Lib.hid (hL1.below HB.out)
  go_wp2_with fail
  refine (toEdit_any a1 m1 A1 l1 c1 _ hl1 (by exact HL1.out)).mono ?_
  rintro e x1 ⟨v, rfl, hown, hb⟩
  obtain ⟨xA1, xc1, rfl, xh1, xk1, _, xp1, xq1⟩ := own_plain9 hown
  have hal := (Below.refl x1.heap.size x1).alloc (Nat.le_refl _) (.cells #[.int .i64 a1, .int .i64 m1, .slice xA1 l1.length xc1] 30)
  have z1 := hb.size
  have RX1 := Lib.hid hown.range
  have hb2 := below_then hb hal
  have BA1 := Lib.hid (BA1.out.below hb2)
  have oO := Lib.hid (oO.out.below hb2)
  have X0 := Lib.hid (X0.out.below hb2)
  have HB := Lib.hid (below_then HB.out hb2)
  have X1 := Lib.hid (hown.below hal)
  have XB1 := Lib.hid (Blk.new x1 #[.int .i64 a1, .int .i64 m1, .slice xA1 l1.length xc1] 30)
  have zz1 : x1.heap.size < (x1.alloc (.cells #[.int .i64 a1, .int .i64 m1, .slice xA1 l1.length xc1] 30)).heap.size := by simp
  clear hown hb hb2 hal HL1 q10 q11 q12
  go_wp2_with fail
  generalize x1.alloc (.cells #[.int .i64 a1, .int .i64 m1, .slice xA1 l1.length xc1] 30) = xw1 at *
  have q10 := XB1.out.cell 0
  have q11 := XB1.out.cell 1
  have q12 := XB1.out.cell 2
  have pX0 := Lib.hid X0.out.ll
  have pX1 := Lib.hid (own_bs9 X1.out)
  go_wp2_with fail
  refine (implLeaseMoved_any xA0 l0 xc0 a1 m1 xA1 l1 xc1 _ hl0 hn91 (by exact pX0.out)).mono ?_
  rintro e g ⟨v, rfl, hown, hb⟩
  rw [HRE.out] at hown
  obtain ⟨gA, gc, rfl, hOL⟩ := hown.owL
  have zg := hb.size
  have RG := Lib.hid hOL.range
  have BA1 := Lib.hid (BA1.out.below hb)
  have oO := Lib.hid (oO.out.below hb)
  have X0 := Lib.hid (X0.out.below hb)
  have X1 := Lib.hid (X1.out.below hb)
  have XB1 := Lib.hid (XB1.out.below hb)
  have HB := Lib.hid (below_then HB.out hb)
  have G := Lib.hid hOL
  clear hown hOL
  clear hb q10 q11 q12 pX0 pX1
  have E1 := Lib.hid G.out.ll
  have E2 := Lib.hid oO.out.ll
  go_wp2_with fail
  refine (eqLeaseS_any _ _ R R _ _ _ (by omega) (by exact E1.out) (by exact E2.out)).mono ?_
  rintro e h1 ⟨rfl, hb⟩
  rw [decide_eq_true (rfl : R = R)]
  clear E1 E2
  have BA1 := Lib.hid (BA1.out.below hb)
  have oO := Lib.hid (oO.out.below hb)
  have X0 := Lib.hid (X0.out.below hb)
  have X1 := Lib.hid (X1.out.below hb)
  have XB1 := Lib.hid (XB1.out.below hb)
  have G := Lib.hid (G.out.below hb)
  have HB := Lib.hid (below_then HB.out hb)
  clear hb
  have HL0 := Lib.hid (hL0.below HB.out)
  go_wp2_with fail
  refine (toLeaseS_any A0 l0 c0 _ hl0 (by exact HL0.out)).mono ?_
  rintro e u0 hgv
  obtain ⟨uA0, uc0, uf0, rfl, hoe, hb⟩ := gives_leases hgv
  have BA1 := Lib.hid (BA1.out.below hb)
  have oO := Lib.hid (oO.out.below hb)
  have X0 := Lib.hid (X0.out.below hb)
  have X1 := Lib.hid (X1.out.below hb)
  have XB1 := Lib.hid (XB1.out.below hb)
  have G := Lib.hid (G.out.below hb)
  have HB := Lib.hid (below_then HB.out hb)
  have HU := Lib.hid hoe.ll
  have HV := Lib.hid X0.out.ll
  clear hgv hoe hb HL0
  go_wp2_with fail
  refine (eqLeaseS_any _ _ l0 l0 _ _ _ hn90 (by exact HV.out) (by exact HU.out)).mono ?_
  rintro e v0 ⟨rfl, hb⟩
  rw [decide_eq_true (rfl : l0 = l0)]
  clear HU HV
  have BA1 := Lib.hid (BA1.out.below hb)
  have oO := Lib.hid (oO.out.below hb)
  have X0 := Lib.hid (X0.out.below hb)
  have X1 := Lib.hid (X1.out.below hb)
  have XB1 := Lib.hid (XB1.out.below hb)
  have G := Lib.hid (G.out.below hb)
  have HB := Lib.hid (below_then HB.out hb)
  clear hb
  have Ka0 := BA1.out.cell 0
  have Kb0 := BA1.out.cell 1
  have Kc0 := BA1.out.cell 2
  have Kd0 := XB1.out.cell 0
  have Ke0 := XB1.out.cell 1
  have Kf0 := XB1.out.cell 2
  have sA := BA1.out.lt
  have sX := XB1.out.lt
  have HL1 := Lib.hid (hL1.below HB.out)
  have HV := Lib.hid (own_bs9 X1.out)
  go_wp2_with fail
  go_region_held3 (fun V => V.cell? ⟨w.heap.size, 0, none⟩ = some (.int .i64 a1) ∧ V.cell? ⟨w.heap.size, 1, none⟩ = some (.int .i64 m1) ∧ V.cell? ⟨w.heap.size, 2, none⟩ = some (.slice A1 l1.length c1) ∧ V.cell? ⟨x1.heap.size, 0, none⟩ = some (.int .i64 a1) ∧ V.cell? ⟨x1.heap.size, 1, none⟩ = some (.int .i64 m1) ∧ V.cell? ⟨x1.heap.size, 2, none⟩ = some (.slice xA1 l1.length xc1)) (exact ⟨(by first | exact Ka0 | exact Ka1 | exact Ka2), (by first | exact Kb0 | exact Kb1 | exact Kb2), (by first | exact Kc0 | exact Kc1 | exact Kc2), (by first | exact Kd0 | exact Kd1 | exact Kd2), (by first | exact Ke0 | exact Ke1 | exact Ke2), (by first | exact Kf0 | exact Kf1 | exact Kf2)⟩) (first
    | (go_at_call 65; refine (toEdit_any a1 m1 A1 l1 c1 _ hl1 (by exact HL1.out)).mono ?_; rintro e u1 ⟨v, rfl, hown, hb⟩; have hb : Below v0.heap.size v0 u1 := ⟨hb.os, hb.tape, hb.output, hb.size, hb.block⟩; obtain ⟨uA, uc, rfl, _, _, hB⟩ := hown.form; have Ka1 := (hb.cell (p := ⟨w.heap.size, 0, none⟩) sA).trans Ka0; have Kb1 := (hb.cell (p := ⟨w.heap.size, 1, none⟩) sA).trans Kb0; have Kc1 := (hb.cell (p := ⟨w.heap.size, 2, none⟩) sA).trans Kc0; have Kd1 := (hb.cell (p := ⟨x1.heap.size, 0, none⟩) sX).trans Kd0; have Ke1 := (hb.cell (p := ⟨x1.heap.size, 1, none⟩) sX).trans Ke0; have Kf1 := (hb.cell (p := ⟨x1.heap.size, 2, none⟩) sX).trans Kf0; have sA1 := Nat.lt_of_lt_of_le sA hb.size; have sX1 := Nat.lt_of_lt_of_le sX hb.size; have HU := Lib.hid hB; have HV1 := Lib.hid (HV.out.below hb); have HB1 := Lib.hid hb; clear hown hb hB)
    | (go_at_call 66; refine (eqEdit_any a1 m1 a1 m1 xA1 uA l1 l1 xc1 uc _ hn91 (by exact HV1.out) (by exact HU.out)).mono ?_; rintro e v1 ⟨rfl, hb⟩; have hb : Below u1.heap.size u1 v1 := ⟨hb.os, hb.tape, hb.output, hb.size, hb.block⟩; rw [decide_eq_true (⟨rfl, rfl, rfl⟩ : a1 = a1 ∧ m1 = m1 ∧ l1 = l1)]; have Ka2 := (hb.cell (p := ⟨w.heap.size, 0, none⟩) sA1).trans Ka1; have Kb2 := (hb.cell (p := ⟨w.heap.size, 1, none⟩) sA1).trans Kb1; have Kc2 := (hb.cell (p := ⟨w.heap.size, 2, none⟩) sA1).trans Kc1; have Kd2 := (hb.cell (p := ⟨x1.heap.size, 0, none⟩) sX1).trans Kd1; have Ke2 := (hb.cell (p := ⟨x1.heap.size, 1, none⟩) sX1).trans Ke1; have Kf2 := (hb.cell (p := ⟨x1.heap.size, 2, none⟩) sX1).trans Kf1; have HB2 := Lib.hid (below_then HB1.out hb); clear hb))
  have hb := HB2.out
  have BA1 := Lib.hid (BA1.out.below hb)
  have oO := Lib.hid (oO.out.below hb)
  have X0 := Lib.hid (X0.out.below hb)
  have X1 := Lib.hid (X1.out.below hb)
  have XB1 := Lib.hid (XB1.out.below hb)
  have G := Lib.hid (G.out.below hb)
  have HB := Lib.hid (below_then HB.out hb)
  clear hb HB2 HB1 HV1 HU HV HL1 Ka0 Ka1 Ka2 Kb0 Kb1 Kb2 Kc0 Kc1 Kc2 Kd0 Kd1 Kd2 Ke0 Ke1 Ke2 Kf0 Kf1 Kf2 sA sX sA1 sX1
  go_wp2_with fail
  refine (markLeaseS_any _ _ l0 _ _ (1) _ (by omega) (by omega) (by exact X0.out)).mono ?_
  rintro e k0 ⟨rfl, _, hke⟩
  have BA1 := Lib.hid (BA1.out.of_block (hke.block _ BA1.out.lt (fun h => by have h1 := RX0.out _ h; omega)))
  have oO := Lib.hid (oO.out.keeps hke (fun b hb h => by have h1 := RX0.out b h; have h2 := RW.out b hb; omega))
  have X1 := Lib.hid (X1.out.keeps hke (fun b hb h => by have h1 := RX0.out b h; have h2 := RX1.out b hb; omega))
  have XB1 := Lib.hid (XB1.out.of_block (hke.block _ XB1.out.lt (fun h => by have h1 := RX0.out _ h; omega)))
  have G := Lib.hid (G.out.keeps hke (fun b hb h => by have h1 := RX0.out b h; have h2 := RG.out b hb; omega))
  have HB := Lib.hid (HB.out.trans (hke.below (B := w.heap.size) HB.out.size (fun k hk => by have h1 := RX0.out k hk; omega)))
  have zk0 := hke.size
  clear hke X0
  have q0 := XB1.out.cell 0
  have q1 := XB1.out.cell 1
  have q2 := XB1.out.cell 2
  go_wp2_with fail
  refine (markEdit_wide a1 m1 _ l1 _ (1 + 4 * l0.length) _ (by omega) (by omega) (by exact X1.out)).mono ?_
  rintro e k1 ⟨rfl, _, hke⟩
  have BA1 := Lib.hid (BA1.out.of_block (hke.block _ BA1.out.lt (fun h => by have h1 := RX1.out _ h; omega)))
  have oO := Lib.hid (oO.out.keeps hke (fun b hb h => by have h1 := RX1.out b h; have h2 := RW.out b hb; omega))
  have G := Lib.hid (G.out.keeps hke (fun b hb h => by have h1 := RX1.out b h; have h2 := RG.out b hb; omega))
  have HB := Lib.hid (HB.out.trans (hke.below (B := w.heap.size) HB.out.size (fun k hk => by have h1 := RX1.out k hk; omega)))
  have zk1 := hke.size
  clear hke X1 XB1 q0 q1 q2
  obtain ⟨K, hK, hK0⟩ : ∃ K : Int, ((1 + 4 * l0.length + l1.length : Nat) : Int) = K ∧ ¬ K < 0 := ⟨_, rfl, by omega⟩
  have hKd : decide (K < 0) = false := decide_eq_false hK0
  rw [hK]
  clear hK hK0
  have E1 := Lib.hid G.out.ll
  have E2 := Lib.hid oO.out.ll
  go_wp2_with fail
  refine (eqLeaseS_any _ _ R R _ _ _ (by omega) (by exact E1.out) (by exact E2.out)).mono ?_
  rintro e h2 ⟨rfl, hb⟩
  rw [decide_eq_true (rfl : R = R)]
  clear E1 E2
  have BA1 := Lib.hid (BA1.out.below hb)
  have oO := Lib.hid (oO.out.below hb)
  have G := Lib.hid (G.out.below hb)
  have HB := Lib.hid (below_then HB.out hb)
  clear hb
  clear hKd
  go_wp2_with fail
  refine (markLeaseS_any _ _ R _ _ 1 _ (by omega) (by omega) (by exact G.out)).mono ?_
  rintro e kg ⟨rfl, hG, hke⟩
  have BA1 := Lib.hid (BA1.out.of_block (hke.block _ BA1.out.lt (fun h => by have h1 := RG.out _ h; omega)))
  have oO := Lib.hid (oO.out.keeps hke (fun b hb h => by have h1 := RG.out b h; have h2 := RW.out b hb; omega))
  have HB := Lib.hid (HB.out.trans (hke.below (B := w.heap.size) HB.out.size (fun k hk => by have h1 := RG.out k hk; omega)))
  have zkg := hke.size
  have HM := Lib.hid hG
  clear hG hke G
  go_wp2_with fail
  refine (heldLeaseS_any gA R.length gc 1 _ (by omega) (by omega) (by exact HM.out)).mono ?_
  rintro e h3 ⟨rfl, rfl⟩
  have nL0 := Lib.hid (hL0.below HB.out)
  have nL1 := Lib.hid (hL1.below HB.out)
  have np1 : h3.cell? ⟨w.heap.size, 0, none⟩ = some (.int .i64 a1) := BA1.out.cell 0
  have nq1 : h3.cell? ⟨w.heap.size, 1, none⟩ = some (.int .i64 m1) := BA1.out.cell 1
  have nr1 : h3.cell? ⟨w.heap.size, 2, none⟩ = some (.slice A1 l1.length c1) := BA1.out.cell 2
  have nz1 := BA1.out.lt
  go_wp2_with fail
  refine wp_region_held_drew (S := (fun V => V.cell? ⟨w.heap.size, 0, none⟩ = some (.int .i64 a1) ∧ V.cell? ⟨w.heap.size, 1, none⟩ = some (.int .i64 m1) ∧ V.cell? ⟨w.heap.size, 2, none⟩ = some (.slice A1 l1.length c1))) (by kernel_rfl) (by exact ⟨np1, nq1, nr1⟩) (fun hHeld => ?_)
  refine wpAnyH_take (i := 0) (oi := ?_) (v := ?_) ?_ ?_ ?_ ?_ ?_ ?_ (by exact hHeld) ?_
  rotate_left 2
  · (simp only [List.getElem?_toArray, List.getElem?_cons_zero]; try rfl)
  · kernel_rfl
  · kernel_rfl
  · kernel_rfl
  · exact fun _ _ _ h => h
  · refine Or.inl ⟨by rfl, ?_⟩
    (intro V hSV; (try dsimp only at hSV); obtain ⟨q0, q1, q2⟩ := hSV; go_simp; try with_reducible rfl)
  (try simp only [Act.put, List.setIfInBounds_toArray, List.set_cons_zero, List.set_cons_succ])
  refine wpAnyH_take (i := 2) (oi := ?_) (v := ?_) ?_ ?_ ?_ ?_ ?_ ?_ (by exact hHeld) ?_
  rotate_left 2
  · (simp only [List.getElem?_toArray, List.getElem?_cons_zero, List.getElem?_cons_succ]; try rfl)
  · kernel_rfl
  · kernel_rfl
  · kernel_rfl
  · exact fun _ _ _ h => h
  · refine Or.inl ⟨by rfl, ?_⟩
    (intro V hSV; (try dsimp only at hSV); obtain ⟨q0, q1, q2⟩ := hSV; go_simp; try with_reducible rfl)
  (try simp only [Act.put, List.setIfInBounds_toArray, List.set_cons_zero, List.set_cons_succ])
  refine wpAnyH_ready (rs := [1]) (by kernel_rfl) (by simp) ?_
  refine AllReadyH.cons rfl (fun K hK => ?_) AllReadyH.nil
  go_simp
  refine (toLeaseS_any A0 l0 c0 _ hl0 (by exact nL0.out)).mono ?_
  rintro e ny1 hgv
  obtain ⟨nA0, nc0, nf0, rfl, hoe, hb⟩ := gives_leases hgv
  have hb : Below h3.heap.size h3 ny1 := ⟨hb.os, hb.tape, hb.output, hb.size, hb.block⟩
  have nL0 := Lib.hid (nL0.out.below hb)
  have nL1 := Lib.hid (nL1.out.below hb)
  have nX0 := Lib.hid hoe.ll
  have nD0 := hoe.cap
  have nHB1 := Lib.hid hb
  clear hgv hoe hb
  go_wp2_with fail
  refine hK.out _ _ (by exact ⟨((nHB1.out).cell (p := ⟨w.heap.size, 0, none⟩) nz1).trans np1, ((nHB1.out).cell (p := ⟨w.heap.size, 1, none⟩) nz1).trans nq1, ((nHB1.out).cell (p := ⟨w.heap.size, 2, none⟩) nz1).trans nr1⟩) (fun hHeld => ?_)
  clear hK K
  (try simp only [Act.put, List.setIfInBounds_toArray, List.set_cons_zero, List.set_cons_succ])
  refine wpAnyH_ready (rs := [3]) (by kernel_rfl) (by simp) ?_
  refine AllReadyH.cons rfl (fun K hK => ?_) AllReadyH.nil
  go_simp
  refine (toEdit_any a1 m1 A1 l1 c1 _ hl1 (by exact nL1.out)).mono ?_
  rintro e ny2 ⟨v, rfl, hown, hb⟩
  obtain ⟨nA1, nc1, rfl, nhc1, nhk1, _⟩ := own_plain9 hown
  have hb : Below ny1.heap.size ny1 ny2 := ⟨hb.os, hb.tape, hb.output, hb.size, hb.block⟩
  have nL0 := Lib.hid (nL0.out.below hb)
  have nL1 := Lib.hid (nL1.out.below hb)
  have nX0 := Lib.hid (nX0.out.below hb)
  have nX1 := Lib.hid (own_bs9 hown)
  have nHB2 := Lib.hid (below_then nHB1.out hb)
  clear hown hb
  go_wp2_with fail
  refine hK.out _ _ (by exact ⟨((nHB2.out).cell (p := ⟨w.heap.size, 0, none⟩) nz1).trans np1, ((nHB2.out).cell (p := ⟨w.heap.size, 1, none⟩) nz1).trans nq1, ((nHB2.out).cell (p := ⟨w.heap.size, 2, none⟩) nz1).trans nr1⟩) (fun hHeld => ?_)
  clear hK K
  (try simp only [Act.put, List.setIfInBounds_toArray, List.set_cons_zero, List.set_cons_succ])
  refine wpAnyH_ready (rs := [4]) (by kernel_rfl) (by simp) ?_
  refine AllReadyH.cons rfl (fun K hK => ?_) AllReadyH.nil
  go_simp
  refine (implLeaseMoved_any nA0 l0 nc0 a1 m1 nA1 l1 nc1 _ hl0 hn91 (by exact nX0.out)).mono ?_
  rintro e ny3 ⟨v, rfl, hown, hb⟩
  rw [HRE.out] at hown
  have hb : Below ny2.heap.size ny2 ny3 := ⟨hb.os, hb.tape, hb.output, hb.size, hb.block⟩
  have nHB3 := Lib.hid (below_then nHB2.out hb)
  obtain ⟨tA, tc, rfl, hOL⟩ := hown.owL
  have tO := Lib.hid hOL
  clear hown hb hOL
  go_wp2_with fail
  refine hK.out _ _ (by exact ⟨((nHB3.out).cell (p := ⟨w.heap.size, 0, none⟩) nz1).trans np1, ((nHB3.out).cell (p := ⟨w.heap.size, 1, none⟩) nz1).trans nq1, ((nHB3.out).cell (p := ⟨w.heap.size, 2, none⟩) nz1).trans nr1⟩) (fun hHeld => ?_)
  clear hK K
  (try simp only [Act.put, List.setIfInBounds_toArray, List.set_cons_zero, List.set_cons_succ])
  refine wpAnyH_take (i := 5) (oi := ?_) (v := ?_) ?_ ?_ ?_ ?_ ?_ ?_ (by exact hHeld) ?_
  rotate_left 2
  · (simp only [List.getElem?_toArray, List.getElem?_cons_zero, List.getElem?_cons_succ]; try rfl)
  · kernel_rfl
  · kernel_rfl
  · kernel_rfl
  · exact fun _ _ _ h => h
  · refine Or.inl ⟨by rfl, ?_⟩
    (intro V hSV; (try dsimp only at hSV); obtain ⟨q0, q1, q2⟩ := hSV; go_simp; try with_reducible rfl)
  (try simp only [Act.put, List.setIfInBounds_toArray, List.set_cons_zero, List.set_cons_succ])
  refine wpAnyH_done (by kernel_rfl) ?_ _
  clear hHeld np1 nq1 nr1 nz1
  have hb := nHB3.out
  have BA1 := Lib.hid (BA1.out.below hb)
  have oO := Lib.hid (oO.out.below hb)
  have HM := Lib.hid (HM.out.below hb)
  have HB := Lib.hid (below_then HB.out hb)
  clear hb nL0 nL1 nHB1 nX0 nD0 nHB2 nX1 nhc1 nhk1 nHB3
  have E1 := Lib.hid tO.out.ll
  have E2 := Lib.hid oO.out.ll
  go_wp2_with fail
  refine (eqLeaseS_any _ _ R R _ _ _ (by omega) (by exact E1.out) (by exact E2.out)).mono ?_
  rintro e h4 ⟨rfl, hb⟩
  rw [decide_eq_true (rfl : R = R)]
  clear E1 E2
  have BA1 := Lib.hid (BA1.out.below hb)
  have oO := Lib.hid (oO.out.below hb)
  have HM := Lib.hid (HM.out.below hb)
  have tO := Lib.hid (tO.out.below hb)
  have HB := Lib.hid (below_then HB.out hb)
  clear hb
  go_wp2_with fail
  refine (heldLeaseS_any gA R.length gc 1 _ (by omega) (by omega) (by exact HM.out)).mono ?_
  rintro e h5 ⟨rfl, rfl⟩
  go_wp2
  go_ret
  exact ⟨rfl, HB.out⟩

end Go.Proofs.Ytdmmdbapkogdhaa.fnExactLeaseMoved
