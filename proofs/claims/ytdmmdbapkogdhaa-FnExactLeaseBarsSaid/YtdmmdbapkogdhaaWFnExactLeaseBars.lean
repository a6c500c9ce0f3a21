/-
  FnExactLeaseBars, its walk. Own work.
-/
import Derived.Test.YtdmmdbapkogdhaaLaw0
import Derived.Test.YtdmmdbapkogdhaaC05
import Derived.Test.YtdmmdbapkogdhaaC09b
import Derived.Test.YtdmmdbapkogdhaaC10
import Derived.Test.YtdmmdbapkogdhaaI29
import Derived.ProofKit
import Derived.OpenShut
import Derived.OpenVars
import Derived.ChangeOld
import Derived.Deep.DeepHandedRow
import Derived.Deep.RegionHeld3
import Derived.Deep.DeepCutAuto
namespace Go.Proofs.Ytdmmdbapkogdhaa.fnExactLeaseBars
open Go.ChangeShapes Go.WideShapes Go.ChangeAt Go.RowKit P
set_option linter.unusedVariables false
set_option maxRecDepth 100000

set_option maxHeartbeats 16000000 in
theorem walk (A0 : Option Addr) (l0 : List Le) (c0 : Nat) (hc0 : l0.length ≤ c0) (hm0 : c0 ≤ maxLen) (a1 : Int) (ha1 : -9223372036854775808 ≤ a1 ∧ a1 ≤ 9223372036854775807) (a2 m2 : Int) (ha2 : -9223372036854775808 ≤ a2 ∧ a2 ≤ 9223372036854775807) (hn2 : -9223372036854775808 ≤ m2 ∧ m2 ≤ 9223372036854775807) (A2 : Option Addr) (l2 : List UInt8) (c2 : Nat) (hc2 : l2.length ≤ c2) (hm2 : c2 ≤ maxLen) (a3 : Int) (ha3 : -9223372036854775808 ≤ a3 ∧ a3 ≤ 9223372036854775807) (w : World) (hL0 : Ll w A0 l0) (hL2 : Bs w A2 l2) :
    Calls Try.prog 14 #[.slice A0 l0.length c0, .int .i64 a1, .agg #[.int .i64 a2, .int .i64 m2, .slice A2 l2.length c2], .int .i64 a3] w fun e w' => e = .returned (.bool true) ∧ Below w.heap.size w w' := by
  have hn90 : l0.length ≤ 9223372036854775807 := by unfold maxLen at hm0; omega
  have hn92 : l2.length ≤ 9223372036854775807 := by unfold maxLen at hm2; omega
  clear hc0 hm0 hc2 hm2
  have BA2 := Blk.new w #[.int .i64 a2, .int .i64 m2, .slice A2 l2.length c2] 76
  have BA2 := Lib.hid BA2
  have hb0 := ((Below.refl w.heap.size w).alloc (Nat.le_refl _) (.cells #[.int .i64 a2, .int .i64 m2, .slice A2 l2.length c2] 76))
  obtain ⟨z, hze⟩ : ∃ z, barsE l0 a1 a2 m2 l2 a3 = z := ⟨_, rfl⟩
  have HZE := Lib.hid hze
  have hzz : (z != z) = false := by simp
  clear hze 
  go_enter Try.func14, Try.ntmps14
  go_wp2_with fail
  generalize w.alloc (.cells #[.int .i64 a2, .int .i64 m2, .slice A2 l2.length c2] 76) = W0 at *
  have HB := Lib.hid hb0
  clear hb0
  have HL0 := Lib.hid (hL0.below HB.out)
  refine (szLeaseS_b A0 l0 c0 1048576 _ hn90 (by omega) (by omega) (by exact HL0.out)).mono ?_
  rintro e s0 ⟨⟨r0, rfl, hr0⟩, hb1⟩
  have BA2 := Lib.hid (BA2.out.below hb1)
  have HB := Lib.hid (below_then HB.out hb1)
  clear hb1 HL0
  by_cases hneg0 : r0 < 0
  · go_wp2
    go_ret
    exact ⟨rfl, HB.out⟩
  have q20 := BA2.out.cell 0
  have q21 := BA2.out.cell 1
  have q22 := BA2.out.cell 2
  go_wp2_with fail
  refine (szEdit_any a2 m2 A2 l2.length c2 r0 _ hn92 (by omega) (by omega)).mono ?_
  rintro e s2 ⟨⟨r2, rfl, hr2⟩, hb1⟩
  have BA2 := Lib.hid (BA2.out.below hb1)
  have HB := Lib.hid (below_then HB.out hb1)
  clear hb1 q20 q21 q22
  by_cases hneg2 : r2 < 0
  · go_wp2
    go_ret
    exact ⟨rfl, HB.out⟩
  have hl2 : l2.length ≤ 1048576 := by omega
  have hl0 : l0.length ≤ 1048576 := by omega
  clear hr2 hr0
  have zA : w.heap.size + 0 < s2.heap.size := BA2.out.lt
  have mL0 := Lib.hid (hL0.below HB.out)
  have mL2 := Lib.hid (hL2.below HB.out)
  have mp2 : s2.cell? ⟨w.heap.size, 0, none⟩ = some (.int .i64 a2) := BA2.out.cell 0
  have mq2 : s2.cell? ⟨w.heap.size, 1, none⟩ = some (.int .i64 m2) := BA2.out.cell 1
  have mr2 : s2.cell? ⟨w.heap.size, 2, none⟩ = some (.slice A2 l2.length c2) := BA2.out.cell 2
  have mz2 := BA2.out.lt
  go_wp2_with fail
  refine wp_region_held_drew (S := (fun V => V.cell? ⟨w.heap.size, 0, none⟩ = some (.int .i64 a2) ∧ V.cell? ⟨w.heap.size, 1, none⟩ = some (.int .i64 m2) ∧ V.cell? ⟨w.heap.size, 2, none⟩ = some (.slice A2 l2.length c2))) (by kernel_rfl) (by exact ⟨mp2, mq2, mr2⟩) (fun hHeld => ?_)
  refine wpAnyH_take (i := 0) (oi := ?_) (v := ?_) ?_ ?_ ?_ ?_ ?_ ?_ (by exact hHeld) ?_
  rotate_left 2
  · (simp only [List.getElem?_toArray, List.getElem?_cons_zero]; try rfl)
  · kernel_rfl
  · kernel_rfl
  · kernel_rfl
  · exact fun _ _ _ h => h
  · refine Or.inl ⟨by rfl, ?_⟩
    (intro V hSV; (try dsimp only at hSV); obtain ⟨q0, q1, q2⟩ := hSV; go_simp; try with_reducible rfl)
  (try simp only [Act.put, List.setIfInBounds_toArray, List.set_cons_zero, List.set_cons_succ])
  refine wpAnyH_take (i := 2) (oi := ?_) (v := ?_) ?_ ?_ ?_ ?_ ?_ ?_ (by exact hHeld) ?_
  rotate_left 2
  · (simp only [List.getElem?_toArray, List.getElem?_cons_zero, List.getElem?_cons_succ]; try rfl)
  · kernel_rfl
  · kernel_rfl
  · kernel_rfl
  · exact fun _ _ _ h => h
  · refine Or.inl ⟨by rfl, ?_⟩
    (intro V hSV; (try dsimp only at hSV); obtain ⟨q0, q1, q2⟩ := hSV; go_simp; try with_reducible rfl)
  (try simp only [Act.put, List.setIfInBounds_toArray, List.set_cons_zero, List.set_cons_succ])
  refine wpAnyH_take (i := 3) (oi := ?_) (v := ?_) ?_ ?_ ?_ ?_ ?_ ?_ (by exact hHeld) ?_
  rotate_left 2
  · (simp only [List.getElem?_toArray, List.getElem?_cons_zero, List.getElem?_cons_succ]; try rfl)
  · kernel_rfl
  · kernel_rfl
  · kernel_rfl
  · exact fun _ _ _ h => h
  · refine Or.inl ⟨by rfl, ?_⟩
    (intro V hSV; (try dsimp only at hSV); obtain ⟨q0, q1, q2⟩ := hSV; go_simp; try with_reducible rfl)
  (try simp only [Act.put, List.setIfInBounds_toArray, List.set_cons_zero, List.set_cons_succ])
  refine wpAnyH_take (i := 5) (oi := ?_) (v := ?_) ?_ ?_ ?_ ?_ ?_ ?_ (by exact hHeld) ?_
  rotate_left 2
  · (simp only [List.getElem?_toArray, List.getElem?_cons_zero, List.getElem?_cons_succ]; try rfl)
  · kernel_rfl
  · kernel_rfl
  · kernel_rfl
  · exact fun _ _ _ h => h
  · refine Or.inl ⟨by rfl, ?_⟩
    (intro V hSV; (try dsimp only at hSV); obtain ⟨q0, q1, q2⟩ := hSV; go_simp; try with_reducible rfl)
  (try simp only [Act.put, List.setIfInBounds_toArray, List.set_cons_zero, List.set_cons_succ])
  refine wpAnyH_ready (rs := [1]) (by kernel_rfl) (by simp) ?_
  refine AllReadyH.cons rfl (fun K hK => ?_) AllReadyH.nil
  go_simp
  refine (toLeaseS_any A0 l0 c0 _ hl0 (by exact mL0.out)).mono ?_
  rintro e my1 hgv
  obtain ⟨mA0, mc0, mf0, rfl, hoe, hb⟩ := gives_leases hgv
  have hb : Below s2.heap.size s2 my1 := ⟨hb.os, hb.tape, hb.output, hb.size, hb.block⟩
  have mL0 := Lib.hid (mL0.out.below hb)
  have mL2 := Lib.hid (mL2.out.below hb)
  have mX0 := Lib.hid hoe.ll
  have mD0 := hoe.cap
  have mHB1 := Lib.hid hb
  clear hgv hoe hb
  go_wp2_with fail
  refine hK.out _ _ (by exact ⟨((mHB1.out).cell (p := ⟨w.heap.size, 0, none⟩) mz2).trans mp2, ((mHB1.out).cell (p := ⟨w.heap.size, 1, none⟩) mz2).trans mq2, ((mHB1.out).cell (p := ⟨w.heap.size, 2, none⟩) mz2).trans mr2⟩) (fun hHeld => ?_)
  clear hK K
  (try simp only [Act.put, List.setIfInBounds_toArray, List.set_cons_zero, List.set_cons_succ])
  refine wpAnyH_ready (rs := [4]) (by kernel_rfl) (by simp) ?_
  refine AllReadyH.cons rfl (fun K hK => ?_) AllReadyH.nil
  go_simp
  refine (toEdit_any a2 m2 A2 l2 c2 _ hl2 (by exact mL2.out)).mono ?_
  rintro e my2 ⟨v, rfl, hown, hb⟩
  obtain ⟨mA2, mc2, rfl, mhc2, mhk2, _⟩ := own_plain9 hown
  have hb : Below my1.heap.size my1 my2 := ⟨hb.os, hb.tape, hb.output, hb.size, hb.block⟩
  have mL0 := Lib.hid (mL0.out.below hb)
  have mL2 := Lib.hid (mL2.out.below hb)
  have mX0 := Lib.hid (mX0.out.below hb)
  have mX2 := Lib.hid (own_bs9 hown)
  have mHB2 := Lib.hid (below_then mHB1.out hb)
  clear hown hb
  go_wp2_with fail
  refine hK.out _ _ (by exact ⟨((mHB2.out).cell (p := ⟨w.heap.size, 0, none⟩) mz2).trans mp2, ((mHB2.out).cell (p := ⟨w.heap.size, 1, none⟩) mz2).trans mq2, ((mHB2.out).cell (p := ⟨w.heap.size, 2, none⟩) mz2).trans mr2⟩) (fun hHeld => ?_)
  clear hK K
  (try simp only [Act.put, List.setIfInBounds_toArray, List.set_cons_zero, List.set_cons_succ])
  refine wpAnyH_ready (rs := [6]) (by kernel_rfl) (by simp) ?_
  refine AllReadyH.cons rfl (fun K hK => ?_) AllReadyH.nil
  go_simp
  refine (specLeaseBars_any mA0 l0 mc0 a1 a2 m2 mA2 l2 mc2 a3 _ hl0 hn92 (by exact mX0.out)).mono ?_
  rintro e my3 ⟨rfl, hb⟩
  rw [HZE.out]
  have hb : Below my2.heap.size my2 my3 := ⟨hb.os, hb.tape, hb.output, hb.size, hb.block⟩
  have mHB3 := Lib.hid (below_then mHB2.out hb)
  clear hb
  go_wp2_with fail
  refine hK.out _ _ (by exact ⟨((mHB3.out).cell (p := ⟨w.heap.size, 0, none⟩) mz2).trans mp2, ((mHB3.out).cell (p := ⟨w.heap.size, 1, none⟩) mz2).trans mq2, ((mHB3.out).cell (p := ⟨w.heap.size, 2, none⟩) mz2).trans mr2⟩) (fun hHeld => ?_)
  clear hK K
  (try simp only [Act.put, List.setIfInBounds_toArray, List.set_cons_zero, List.set_cons_succ])
  refine wpAnyH_take (i := 7) (oi := ?_) (v := ?_) ?_ ?_ ?_ ?_ ?_ ?_ (by exact hHeld) ?_
  rotate_left 2
  · (simp only [List.getElem?_toArray, List.getElem?_cons_zero, List.getElem?_cons_succ]; try rfl)
  · kernel_rfl
  · kernel_rfl
  · kernel_rfl
  · exact fun _ _ _ h => h
  · refine Or.inl ⟨by rfl, ?_⟩
    (intro V hSV; (try dsimp only at hSV); obtain ⟨q0, q1, q2⟩ := hSV; go_simp; try with_reducible rfl)
  (try simp only [Act.put, List.setIfInBounds_toArray, List.set_cons_zero, List.set_cons_succ])
  refine wpAnyH_done (by kernel_rfl) ?_ _
  clear hHeld mp2 mq2 mr2 mz2
  have hb := mHB3.out
  have BA2 := Lib.hid (BA2.out.below hb)
  have HB := Lib.hid (below_then HB.out hb)
  clear hb mL0 mL2 mHB1 mX0 mD0 mHB2 mX2 mhc2 mhk2 mHB3
  have HL0 := Lib.hid (hL0.below HB.out)
  go_wp2_with fail
  refine (toLeaseS_any A0 l0 c0 _ hl0 (by exact HL0.out)).mono ?_
  rintro e x0 hgv
  obtain ⟨xA0, xc0, xf0, rfl, hoe, hb⟩ := gives_leases hgv
  have z0 := hb.size
  have RX0 := Lib.hid hoe.range
  have BA2 := Lib.hid (BA2.out.below hb)
  have HB := Lib.hid (below_then HB.out hb)
  have X0 := Lib.hid hoe
  clear hgv hoe hb HL0
  have q20 := BA2.out.cell 0
  have q21 := BA2.out.cell 1
  have q22 := BA2.out.cell 2
  have HL2 := Lib.hid (hL2.below HB.out)
  go_wp2_with fail
  refine (toEdit_any a2 m2 A2 l2 c2 _ hl2 (by exact HL2.out)).mono ?_
  rintro e x2 ⟨v, rfl, hown, hb⟩
  obtain ⟨xA2, xc2, rfl, xh2, xk2, _, xp2, xq2⟩ := own_plain9 hown
  have hal := (Below.refl x2.heap.size x2).alloc (Nat.le_refl _) (.cells #[.int .i64 a2, .int .i64 m2, .slice xA2 l2.length xc2] 30)
  have z2 := hb.size
  have RX2 := Lib.hid hown.range
  have hb2 := below_then hb hal
  have BA2 := Lib.hid (BA2.out.below hb2)
  have X0 := Lib.hid (X0.out.below hb2)
  have HB := Lib.hid (below_then HB.out hb2)
  have X2 := Lib.hid (hown.below hal)
  have XB2 := Lib.hid (Blk.new x2 #[.int .i64 a2, .int .i64 m2, .slice xA2 l2.length xc2] 30)
  have zz2 : x2.heap.size < (x2.alloc (.cells #[.int .i64 a2, .int .i64 m2, .slice xA2 l2.length xc2] 30)).heap.size := by simp
  clear hown hb hb2 hal HL2 q20 q21 q22
  go_wp2_with fail
  generalize x2.alloc (.cells #[.int .i64 a2, .int .i64 m2, .slice xA2 l2.length xc2] 30) = xw2 at *
  have q20 := XB2.out.cell 0
  have q21 := XB2.out.cell 1
  have q22 := XB2.out.cell 2
  have pX0 := Lib.hid X0.out.ll
  have pX2 := Lib.hid (own_bs9 X2.out)
  go_wp2_with fail
  refine (implLeaseBars_any xA0 l0 xc0 a1 a2 m2 xA2 l2 xc2 a3 _ hl0 hn92 (by exact pX0.out)).mono ?_
  rintro e g ⟨rfl, hb⟩
  rw [HZE.out]
  have BA2 := Lib.hid (BA2.out.below hb)
  have X0 := Lib.hid (X0.out.below hb)
  have X2 := Lib.hid (X2.out.below hb)
  have XB2 := Lib.hid (XB2.out.below hb)
  have HB := Lib.hid (below_then HB.out hb)
  clear hb q20 q21 q22 pX0 pX2
  have HL0 := Lib.hid (hL0.below HB.out)
  go_wp2_with fail
  refine (toLeaseS_any A0 l0 c0 _ hl0 (by exact HL0.out)).mono ?_
  rintro e u0 hgv
  obtain ⟨uA0, uc0, uf0, rfl, hoe, hb⟩ := gives_leases hgv
  have BA2 := Lib.hid (BA2.out.below hb)
  have X0 := Lib.hid (X0.out.below hb)
  have X2 := Lib.hid (X2.out.below hb)
  have XB2 := Lib.hid (XB2.out.below hb)
  have HB := Lib.hid (below_then HB.out hb)
  have HU := Lib.hid hoe.ll
  have HV := Lib.hid X0.out.ll
  clear hgv hoe hb HL0
  go_wp2_with fail
  refine (eqLeaseS_any _ _ l0 l0 _ _ _ hn90 (by exact HV.out) (by exact HU.out)).mono ?_
  rintro e v0 ⟨rfl, hb⟩
  rw [decide_eq_true (rfl : l0 = l0)]
  clear HU HV
  have BA2 := Lib.hid (BA2.out.below hb)
  have X0 := Lib.hid (X0.out.below hb)
  have X2 := Lib.hid (X2.out.below hb)
  have XB2 := Lib.hid (XB2.out.below hb)
  have HB := Lib.hid (below_then HB.out hb)
  clear hb
  have Ka0 := BA2.out.cell 0
  have Kb0 := BA2.out.cell 1
  have Kc0 := BA2.out.cell 2
  have Kd0 := XB2.out.cell 0
  have Ke0 := XB2.out.cell 1
  have Kf0 := XB2.out.cell 2
  have sA := BA2.out.lt
  have sX := XB2.out.lt
  have HL2 := Lib.hid (hL2.below HB.out)
  have HV := Lib.hid (own_bs9 X2.out)
  go_wp2_with fail
  go_region_held3 (fun V => V.cell? ⟨w.heap.size, 0, none⟩ = some (.int .i64 a2) ∧ V.cell? ⟨w.heap.size, 1, none⟩ = some (.int .i64 m2) ∧ V.cell? ⟨w.heap.size, 2, none⟩ = some (.slice A2 l2.length c2) ∧ V.cell? ⟨x2.heap.size, 0, none⟩ = some (.int .i64 a2) ∧ V.cell? ⟨x2.heap.size, 1, none⟩ = some (.int .i64 m2) ∧ V.cell? ⟨x2.heap.size, 2, none⟩ = some (.slice xA2 l2.length xc2)) (exact ⟨(by first | exact Ka0 | exact Ka1 | exact Ka2), (by first | exact Kb0 | exact Kb1 | exact Kb2), (by first | exact Kc0 | exact Kc1 | exact Kc2), (by first | exact Kd0 | exact Kd1 | exact Kd2), (by first | exact Ke0 | exact Ke1 | exact Ke2), (by first | exact Kf0 | exact Kf1 | exact Kf2)⟩) (first
    | (go_at_call 65; refine (toEdit_any a2 m2 A2 l2 c2 _ hl2 (by exact HL2.out)).mono ?_; rintro e u2 ⟨v, rfl, hown, hb⟩; have hb : Below v0.heap.size v0 u2 := ⟨hb.os, hb.tape, hb.output, hb.size, hb.block⟩; obtain ⟨uA, uc, rfl, _, _, hB⟩ := hown.form; have Ka1 := (hb.cell (p := ⟨w.heap.size, 0, none⟩) sA).trans Ka0; have Kb1 := (hb.cell (p := ⟨w.heap.size, 1, none⟩) sA).trans Kb0; have Kc1 := (hb.cell (p := ⟨w.heap.size, 2, none⟩) sA).trans Kc0; have Kd1 := (hb.cell (p := ⟨x2.heap.size, 0, none⟩) sX).trans Kd0; have Ke1 := (hb.cell (p := ⟨x2.heap.size, 1, none⟩) sX).trans Ke0; have Kf1 := (hb.cell (p := ⟨x2.heap.size, 2, none⟩) sX).trans Kf0; have sA1 := Nat.lt_of_lt_of_le sA hb.size; have sX1 := Nat.lt_of_lt_of_le sX hb.size; have HU := Lib.hid hB; have HV1 := Lib.hid (HV.out.below hb); have HB1 := Lib.hid hb; clear hown hb hB)
    | (go_at_call 66; refine (eqEdit_any a2 m2 a2 m2 xA2 uA l2 l2 xc2 uc _ hn92 (by exact HV1.out) (by exact HU.out)).mono ?_; rintro e v2 ⟨rfl, hb⟩; have hb : Below u2.heap.size u2 v2 := ⟨hb.os, hb.tape, hb.output, hb.size, hb.block⟩; rw [decide_eq_true (⟨rfl, rfl, rfl⟩ : a2 = a2 ∧ m2 = m2 ∧ l2 = l2)]; have Ka2 := (hb.cell (p := ⟨w.heap.size, 0, none⟩) sA1).trans Ka1; have Kb2 := (hb.cell (p := ⟨w.heap.size, 1, none⟩) sA1).trans Kb1; have Kc2 := (hb.cell (p := ⟨w.heap.size, 2, none⟩) sA1).trans Kc1; have Kd2 := (hb.cell (p := ⟨x2.heap.size, 0, none⟩) sX1).trans Kd1; have Ke2 := (hb.cell (p := ⟨x2.heap.size, 1, none⟩) sX1).trans Ke1; have Kf2 := (hb.cell (p := ⟨x2.heap.size, 2, none⟩) sX1).trans Kf1; have HB2 := Lib.hid (below_then HB1.out hb); clear hb))
  have hb := HB2.out
  have BA2 := Lib.hid (BA2.out.below hb)
  have X0 := Lib.hid (X0.out.below hb)
  have X2 := Lib.hid (X2.out.below hb)
  have XB2 := Lib.hid (XB2.out.below hb)
  have HB := Lib.hid (below_then HB.out hb)
  clear hb HB2 HB1 HV1 HU HV HL2 Ka0 Ka1 Ka2 Kb0 Kb1 Kb2 Kc0 Kc1 Kc2 Kd0 Kd1 Kd2 Ke0 Ke1 Ke2 Kf0 Kf1 Kf2 sA sX sA1 sX1
  go_wp2
  go_ret
  exact ⟨rfl, HB.out⟩

end Go.Proofs.Ytdmmdbapkogdhaa.fnExactLeaseBars
