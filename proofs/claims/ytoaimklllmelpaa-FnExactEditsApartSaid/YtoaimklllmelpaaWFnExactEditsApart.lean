/-
  FnExactEditsApart, its walk. Own work.
-/
import Derived.Test.YtoaimklllmelpaaLaw0
import Derived.Test.YtoaimklllmelpaaC05
import Derived.Test.YtoaimklllmelpaaJ09q
import Derived.ProofKit
import Derived.OpenShut
import Derived.OpenVars
import Derived.ChangeOld
import Derived.Deep.DeepHandedRow
import Derived.Deep.RegionHeld3
import Derived.Deep.DeepCutAuto
namespace Go.Proofs.Ytoaimklllmelpaa.fnExactEditsApart
open Go.ChangeShapes Go.WideShapes Go.ChangeAt Go.RowKit P
set_option linter.unusedVariables false
set_option maxRecDepth 100000

set_option maxHeartbeats 16000000 in
theorem walk (a0 m0 : Int) (ha0 : -9223372036854775808 ≤ a0 ∧ a0 ≤ 9223372036854775807) (hn0 : -9223372036854775808 ≤ m0 ∧ m0 ≤ 9223372036854775807) (A0 : Option Addr) (l0 : List UInt8) (c0 : Nat) (hc0 : l0.length ≤ c0) (hm0 : c0 ≤ maxLen) (a1 m1 : Int) (ha1 : -9223372036854775808 ≤ a1 ∧ a1 ≤ 9223372036854775807) (hn1 : -9223372036854775808 ≤ m1 ∧ m1 ≤ 9223372036854775807) (A1 : Option Addr) (l1 : List UInt8) (c1 : Nat) (hc1 : l1.length ≤ c1) (hm1 : c1 ≤ maxLen) (w : World) (hL0 : Bs w A0 l0) (hL1 : Bs w A1 l1) :
    Calls Try.prog 8 #[.agg #[.int .i64 a0, .int .i64 m0, .slice A0 l0.length c0], .agg #[.int .i64 a1, .int .i64 m1, .slice A1 l1.length c1]] w fun e w' => e = .returned (.bool true) ∧ Below w.heap.size w w' := by
  have hn90 : l0.length ≤ 9223372036854775807 := by unfold maxLen at hm0; omega
  have hn91 : l1.length ≤ 9223372036854775807 := by unfold maxLen at hm1; omega
  clear hc0 hm0 hc1 hm1
  have BA0 := Blk.new w #[.int .i64 a0, .int .i64 m0, .slice A0 l0.length c0] 24
  have BA0 := BA0.below ((Below.refl _ _).alloc (Nat.le_refl _) (.cells #[.int .i64 a1, .int .i64 m1, .slice A1 l1.length c1] 24))
  have BA1 := Blk.new (w.alloc (.cells #[.int .i64 a0, .int .i64 m0, .slice A0 l0.length c0] 24)) #[.int .i64 a1, .int .i64 m1, .slice A1 l1.length c1] 24
  simp only [World.size_alloc] at BA1
  have BA0 := Lib.hid BA0
  have BA1 := Lib.hid BA1
  have hb0 := (((Below.refl w.heap.size w).alloc (Nat.le_refl _) (.cells #[.int .i64 a0, .int .i64 m0, .slice A0 l0.length c0] 24)).alloc (by simp) (.cells #[.int .i64 a1, .int .i64 m1, .slice A1 l1.length c1] 24))
  obtain ⟨z, hze⟩ : ∃ z, apart a0 m0 l0 a1 m1 l1 = z := ⟨_, rfl⟩
  have HZE := Lib.hid hze
  have hzz : (z != z) = false := by simp
  clear hze 
  go_enter Try.func8, Try.ntmps8
  go_wp2_with fail
  generalize (w.alloc (.cells #[.int .i64 a0, .int .i64 m0, .slice A0 l0.length c0] 24)).alloc (.cells #[.int .i64 a1, .int .i64 m1, .slice A1 l1.length c1] 24) = W0 at *
  have HB := Lib.hid hb0
  clear hb0
  refine (szEdit_any a0 m0 A0 l0.length c0 1048576 _ hn90 (by omega) (by omega)).mono ?_
  rintro e s0 ⟨⟨r0, rfl, hr0⟩, hb1⟩
  have BA0 := Lib.hid (BA0.out.below hb1)
  have BA1 := Lib.hid (BA1.out.below hb1)
  have HB := Lib.hid (below_then HB.out hb1)
  clear hb1
  by_cases hneg0 : r0 < 0
  · go_wp2
    go_ret
    exact ⟨rfl, HB.out⟩
  have q10 := BA1.out.cell 0
  have q11 := BA1.out.cell 1
  have q12 := BA1.out.cell 2
  go_wp2_with fail
  refine (szEdit_any a1 m1 A1 l1.length c1 r0 _ hn91 (by omega) (by omega)).mono ?_
  rintro e s1 ⟨⟨r1, rfl, hr1⟩, hb1⟩
  have BA0 := Lib.hid (BA0.out.below hb1)
  have BA1 := Lib.hid (BA1.out.below hb1)
  have HB := Lib.hid (below_then HB.out hb1)
  clear hb1 q10 q11 q12
  by_cases hneg1 : r1 < 0
  · go_wp2
    go_ret
    exact ⟨rfl, HB.out⟩
  have hl0 : l0.length ≤ 1048576 := by omega
  have hl1 : l1.length ≤ 1048576 := by omega
  clear hr0 hr1
  have zA : w.heap.size + 1 < s1.heap.size := BA1.out.lt
  have mp0 : s1.cell? ⟨w.heap.size, 0, none⟩ = some (.int .i64 a0) := BA0.out.cell 0
  have mq0 : s1.cell? ⟨w.heap.size, 1, none⟩ = some (.int .i64 m0) := BA0.out.cell 1
  have mr0 : s1.cell? ⟨w.heap.size, 2, none⟩ = some (.slice A0 l0.length c0) := BA0.out.cell 2
  have mz0 := BA0.out.lt
  have mp1 : s1.cell? ⟨w.heap.size + 1, 0, none⟩ = some (.int .i64 a1) := BA1.out.cell 0
  have mq1 : s1.cell? ⟨w.heap.size + 1, 1, none⟩ = some (.int .i64 m1) := BA1.out.cell 1
  have mr1 : s1.cell? ⟨w.heap.size + 1, 2, none⟩ = some (.slice A1 l1.length c1) := BA1.out.cell 2
  have mz1 := BA1.out.lt
  have mL0 := Lib.hid (hL0.below HB.out)
  have mL1 := Lib.hid (hL1.below HB.out)
  go_wp2_with fail
  go_region_held3 (fun V => V.cell? ⟨w.heap.size, 0, none⟩ = some (.int .i64 a0) ∧ V.cell? ⟨w.heap.size, 1, none⟩ = some (.int .i64 m0) ∧ V.cell? ⟨w.heap.size, 2, none⟩ = some (.slice A0 l0.length c0) ∧ V.cell? ⟨w.heap.size + 1, 0, none⟩ = some (.int .i64 a1) ∧ V.cell? ⟨w.heap.size + 1, 1, none⟩ = some (.int .i64 m1) ∧ V.cell? ⟨w.heap.size + 1, 2, none⟩ = some (.slice A1 l1.length c1)) (exact ⟨(by first | exact mp0 | exact mp0_1 | exact mp0_2 | exact mp0_3), (by first | exact mq0 | exact mq0_1 | exact mq0_2 | exact mq0_3), (by first | exact mr0 | exact mr0_1 | exact mr0_2 | exact mr0_3), (by first | exact mp1 | exact mp1_1 | exact mp1_2 | exact mp1_3), (by first | exact mq1 | exact mq1_1 | exact mq1_2 | exact mq1_3), (by first | exact mr1 | exact mr1_1 | exact mr1_2 | exact mr1_3)⟩) (first
    | (go_at_call_of 16 (Value.agg #[Value.int IntKind.i64 a0, Value.int IntKind.i64 m0, Value.slice A0 l0.length c0]); refine (toEdit_any a0 m0 A0 l0 c0 _ hl0 (by exact mL0.out)).mono ?_; rintro e my1 ⟨v, rfl, hown, hb⟩; have hb : Below s1.heap.size s1 my1 := ⟨hb.os, hb.tape, hb.output, hb.size, hb.block⟩; have mp0_1 := (hb.cell (p := ⟨w.heap.size, 0, none⟩) mz0).trans mp0; have mq0_1 := (hb.cell (p := ⟨w.heap.size, 1, none⟩) mz0).trans mq0; have mr0_1 := (hb.cell (p := ⟨w.heap.size, 2, none⟩) mz0).trans mr0; have mp1_1 := (hb.cell (p := ⟨w.heap.size + 1, 0, none⟩) mz1).trans mp1; have mq1_1 := (hb.cell (p := ⟨w.heap.size + 1, 1, none⟩) mz1).trans mq1; have mr1_1 := (hb.cell (p := ⟨w.heap.size + 1, 2, none⟩) mz1).trans mr1; have mz0_1 := Nat.lt_of_lt_of_le mz0 hb.size; have mz1_1 := Nat.lt_of_lt_of_le mz1 hb.size; have mL0 := Lib.hid (mL0.out.below hb); have mL1 := Lib.hid (mL1.out.below hb); obtain ⟨mA0, mc0, rfl, mhc0, mhk0, hB, hp1, hp2⟩ := own_plain9 hown; have mX0 := Lib.hid hB; have mD0 : Hid (Pl mA0 mc0) := Lib.hid (by unfold Pl; exact ⟨hp1, hp2⟩); have mHB1 := Lib.hid hb; clear hown hb hB hp1 hp2)
    | (go_at_call_of 16 (Value.agg #[Value.int IntKind.i64 a1, Value.int IntKind.i64 m1, Value.slice A1 l1.length c1]); refine (toEdit_any a1 m1 A1 l1 c1 _ hl1 (by exact mL1.out)).mono ?_; rintro e my2 ⟨v, rfl, hown, hb⟩; have hb : Below my1.heap.size my1 my2 := ⟨hb.os, hb.tape, hb.output, hb.size, hb.block⟩; have mp0_2 := (hb.cell (p := ⟨w.heap.size, 0, none⟩) mz0_1).trans mp0_1; have mq0_2 := (hb.cell (p := ⟨w.heap.size, 1, none⟩) mz0_1).trans mq0_1; have mr0_2 := (hb.cell (p := ⟨w.heap.size, 2, none⟩) mz0_1).trans mr0_1; have mp1_2 := (hb.cell (p := ⟨w.heap.size + 1, 0, none⟩) mz1_1).trans mp1_1; have mq1_2 := (hb.cell (p := ⟨w.heap.size + 1, 1, none⟩) mz1_1).trans mq1_1; have mr1_2 := (hb.cell (p := ⟨w.heap.size + 1, 2, none⟩) mz1_1).trans mr1_1; have mz0_2 := Nat.lt_of_lt_of_le mz0_1 hb.size; have mz1_2 := Nat.lt_of_lt_of_le mz1_1 hb.size; have mX0 := Lib.hid (mX0.out.below hb); have mL0 := Lib.hid (mL0.out.below hb); have mL1 := Lib.hid (mL1.out.below hb); obtain ⟨mA1, mc1, rfl, mhc1, mhk1, hB, hp1, hp2⟩ := own_plain9 hown; have mX1 := Lib.hid hB; have mD1 : Hid (Pl mA1 mc1) := Lib.hid (by unfold Pl; exact ⟨hp1, hp2⟩); have mHB2 := Lib.hid (below_then mHB1.out hb); clear hown hb hB hp1 hp2)
    | (go_at_call 33; refine (specEditsApart_any a0 m0 mA0 l0 mc0 a1 m1 mA1 l1 mc1 _ hn90 hn91).mono ?_; rintro e my3 ⟨rfl, hb⟩; rw [HZE.out]; have hb : Below my2.heap.size my2 my3 := ⟨hb.os, hb.tape, hb.output, hb.size, hb.block⟩; have mp0_3 := (hb.cell (p := ⟨w.heap.size, 0, none⟩) mz0_2).trans mp0_2; have mq0_3 := (hb.cell (p := ⟨w.heap.size, 1, none⟩) mz0_2).trans mq0_2; have mr0_3 := (hb.cell (p := ⟨w.heap.size, 2, none⟩) mz0_2).trans mr0_2; have mp1_3 := (hb.cell (p := ⟨w.heap.size + 1, 0, none⟩) mz1_2).trans mp1_2; have mq1_3 := (hb.cell (p := ⟨w.heap.size + 1, 1, none⟩) mz1_2).trans mq1_2; have mr1_3 := (hb.cell (p := ⟨w.heap.size + 1, 2, none⟩) mz1_2).trans mr1_2; have mz0_3 := Nat.lt_of_lt_of_le mz0_2 hb.size; have mz1_3 := Nat.lt_of_lt_of_le mz1_2 hb.size; have mHB3 := Lib.hid (below_then mHB2.out hb); clear hb))
  have hb := mHB3.out
  have BA0 := Lib.hid (BA0.out.below hb)
  have BA1 := Lib.hid (BA1.out.below hb)
  have HB := Lib.hid (below_then HB.out hb)
  clear hb mHB1 mHB2 mHB3 mL0 mX0 mD0 mL1 mX1 mD1 mp0 mp0_1 mp0_2 mp0_3 mq0 mq0_1 mq0_2 mq0_3 mr0 mr0_1 mr0_2 mr0_3 mz0 mz0_1 mz0_2 mz0_3 mhc0 mhk0 mp1 mp1_1 mp1_2 mp1_3 mq1 mq1_1 mq1_2 mq1_3 mr1 mr1_1 mr1_2 mr1_3 mz1 mz1_1 mz1_2 mz1_3 mhc1 mhk1
  have q00 := BA0.out.cell 0
  have q01 := BA0.out.cell 1
  have q02 := BA0.out.cell 2
  have HL0 := Lib.hid (hL0.below HB.out)
  go_wp2_with fail
  refine (toEdit_any a0 m0 A0 l0 c0 _ hl0 (by exact HL0.out)).mono ?_
  rintro e x0 ⟨v, rfl, hown, hb⟩
  obtain ⟨xA0, xc0, rfl, xh0, xk0, _, xp0, xq0⟩ := own_plain9 hown
  have hal := (Below.refl x0.heap.size x0).alloc (Nat.le_refl _) (.cells #[.int .i64 a0, .int .i64 m0, .slice xA0 l0.length xc0] 27)
  have z0 := hb.size
  have RX0 := Lib.hid hown.range
  have hb2 := below_then hb hal
  have BA0 := Lib.hid (BA0.out.below hb2)
  have BA1 := Lib.hid (BA1.out.below hb2)
  have HB := Lib.hid (below_then HB.out hb2)
  have X0 := Lib.hid (hown.below hal)
  have XB0 := Lib.hid (Blk.new x0 #[.int .i64 a0, .int .i64 m0, .slice xA0 l0.length xc0] 27)
  have zz0 : x0.heap.size < (x0.alloc (.cells #[.int .i64 a0, .int .i64 m0, .slice xA0 l0.length xc0] 27)).heap.size := by simp
  clear hown hb hb2 hal HL0 q00 q01 q02
  have q10 := BA1.out.cell 0
  have q11 := BA1.out.cell 1
  have q12 := BA1.out.cell 2
  go_wp2_with fail
  generalize x0.alloc (.cells #[.int .i64 a0, .int .i64 m0, .slice xA0 l0.length xc0] 27) = xw0 at *
  have HL1 := Lib.hid (hL1.below HB.out)
  refine (toEdit_any a1 m1 A1 l1 c1 _ hl1 (by exact HL1.out)).mono ?_
  rintro e x1 ⟨v, rfl, hown, hb⟩
  obtain ⟨xA1, xc1, rfl, xh1, xk1, _, xp1, xq1⟩ := own_plain9 hown
  have hal := (Below.refl x1.heap.size x1).alloc (Nat.le_refl _) (.cells #[.int .i64 a1, .int .i64 m1, .slice xA1 l1.length xc1] 27)
  have z1 := hb.size
  have RX1 := Lib.hid hown.range
  have hb2 := below_then hb hal
  have BA0 := Lib.hid (BA0.out.below hb2)
  have BA1 := Lib.hid (BA1.out.below hb2)
  have X0 := Lib.hid (X0.out.below hb2)
  have XB0 := Lib.hid (XB0.out.below hb2)
  have HB := Lib.hid (below_then HB.out hb2)
  have X1 := Lib.hid (hown.below hal)
  have XB1 := Lib.hid (Blk.new x1 #[.int .i64 a1, .int .i64 m1, .slice xA1 l1.length xc1] 27)
  have zz1 : x1.heap.size < (x1.alloc (.cells #[.int .i64 a1, .int .i64 m1, .slice xA1 l1.length xc1] 27)).heap.size := by simp
  clear hown hb hb2 hal HL1 q10 q11 q12
  have q00 := XB0.out.cell 0
  have q01 := XB0.out.cell 1
  have q02 := XB0.out.cell 2
  go_wp2_with fail
  generalize x1.alloc (.cells #[.int .i64 a1, .int .i64 m1, .slice xA1 l1.length xc1] 27) = xw1 at *
  clear q00 q01 q02
  have q00 := XB0.out.cell 0
  have q01 := XB0.out.cell 1
  have q02 := XB0.out.cell 2
  have q10 := XB1.out.cell 0
  have q11 := XB1.out.cell 1
  have q12 := XB1.out.cell 2
  have pX0 := Lib.hid (own_bs9 X0.out)
  have pX1 := Lib.hid (own_bs9 X1.out)
  go_wp2_with fail
  refine (implEditsApart_any a0 m0 xA0 l0 xc0 a1 m1 xA1 l1 xc1 _ hn90 hn91).mono ?_
  rintro e g ⟨rfl, hb⟩
  rw [HZE.out]
  have BA0 := Lib.hid (BA0.out.below hb)
  have BA1 := Lib.hid (BA1.out.below hb)
  have X0 := Lib.hid (X0.out.below hb)
  have XB0 := Lib.hid (XB0.out.below hb)
  have X1 := Lib.hid (X1.out.below hb)
  have XB1 := Lib.hid (XB1.out.below hb)
  have HB := Lib.hid (below_then HB.out hb)
  clear hb q00 q01 q02 q10 q11 q12 pX0 pX1
  have Ka0 := BA0.out.cell 0
  have Kb0 := BA0.out.cell 1
  have Kc0 := BA0.out.cell 2
  have Kd0 := XB0.out.cell 0
  have Ke0 := XB0.out.cell 1
  have Kf0 := XB0.out.cell 2
  have sA := BA0.out.lt
  have sX := XB0.out.lt
  have HL0 := Lib.hid (hL0.below HB.out)
  have HV := Lib.hid (own_bs9 X0.out)
  go_wp2_with fail
  go_region_held3 (fun V => V.cell? ⟨w.heap.size, 0, none⟩ = some (.int .i64 a0) ∧ V.cell? ⟨w.heap.size, 1, none⟩ = some (.int .i64 m0) ∧ V.cell? ⟨w.heap.size, 2, none⟩ = some (.slice A0 l0.length c0) ∧ V.cell? ⟨x0.heap.size, 0, none⟩ = some (.int .i64 a0) ∧ V.cell? ⟨x0.heap.size, 1, none⟩ = some (.int .i64 m0) ∧ V.cell? ⟨x0.heap.size, 2, none⟩ = some (.slice xA0 l0.length xc0)) (exact ⟨(by first | exact Ka0 | exact Ka1 | exact Ka2), (by first | exact Kb0 | exact Kb1 | exact Kb2), (by first | exact Kc0 | exact Kc1 | exact Kc2), (by first | exact Kd0 | exact Kd1 | exact Kd2), (by first | exact Ke0 | exact Ke1 | exact Ke2), (by first | exact Kf0 | exact Kf1 | exact Kf2)⟩) (first
    | (go_at_call 16; refine (toEdit_any a0 m0 A0 l0 c0 _ hl0 (by exact HL0.out)).mono ?_; rintro e u0 ⟨v, rfl, hown, hb⟩; have hb : Below g.heap.size g u0 := ⟨hb.os, hb.tape, hb.output, hb.size, hb.block⟩; obtain ⟨uA, uc, rfl, _, _, hB⟩ := hown.form; have Ka1 := (hb.cell (p := ⟨w.heap.size, 0, none⟩) sA).trans Ka0; have Kb1 := (hb.cell (p := ⟨w.heap.size, 1, none⟩) sA).trans Kb0; have Kc1 := (hb.cell (p := ⟨w.heap.size, 2, none⟩) sA).trans Kc0; have Kd1 := (hb.cell (p := ⟨x0.heap.size, 0, none⟩) sX).trans Kd0; have Ke1 := (hb.cell (p := ⟨x0.heap.size, 1, none⟩) sX).trans Ke0; have Kf1 := (hb.cell (p := ⟨x0.heap.size, 2, none⟩) sX).trans Kf0; have sA1 := Nat.lt_of_lt_of_le sA hb.size; have sX1 := Nat.lt_of_lt_of_le sX hb.size; have HU := Lib.hid hB; have HV1 := Lib.hid (HV.out.below hb); have HB1 := Lib.hid hb; clear hown hb hB)
    | (go_at_call 18; refine (eqEdit_any a0 m0 a0 m0 xA0 uA l0 l0 xc0 uc _ hn90 (by exact HV1.out) (by exact HU.out)).mono ?_; rintro e v0 ⟨rfl, hb⟩; have hb : Below u0.heap.size u0 v0 := ⟨hb.os, hb.tape, hb.output, hb.size, hb.block⟩; rw [decide_eq_true (⟨rfl, rfl, rfl⟩ : a0 = a0 ∧ m0 = m0 ∧ l0 = l0)]; have Ka2 := (hb.cell (p := ⟨w.heap.size, 0, none⟩) sA1).trans Ka1; have Kb2 := (hb.cell (p := ⟨w.heap.size, 1, none⟩) sA1).trans Kb1; have Kc2 := (hb.cell (p := ⟨w.heap.size, 2, none⟩) sA1).trans Kc1; have Kd2 := (hb.cell (p := ⟨x0.heap.size, 0, none⟩) sX1).trans Kd1; have Ke2 := (hb.cell (p := ⟨x0.heap.size, 1, none⟩) sX1).trans Ke1; have Kf2 := (hb.cell (p := ⟨x0.heap.size, 2, none⟩) sX1).trans Kf1; have HB2 := Lib.hid (below_then HB1.out hb); clear hb))
  have hb := HB2.out
  have BA0 := Lib.hid (BA0.out.below hb)
  have BA1 := Lib.hid (BA1.out.below hb)
  have X0 := Lib.hid (X0.out.below hb)
  have XB0 := Lib.hid (XB0.out.below hb)
  have X1 := Lib.hid (X1.out.below hb)
  have XB1 := Lib.hid (XB1.out.below hb)
  have HB := Lib.hid (below_then HB.out hb)
  clear hb HB2 HB1 HV1 HU HV HL0 Ka0 Ka1 Ka2 Kb0 Kb1 Kb2 Kc0 Kc1 Kc2 Kd0 Kd1 Kd2 Ke0 Ke1 Ke2 Kf0 Kf1 Kf2 sA sX sA1 sX1
  have Ka0 := BA1.out.cell 0
  have Kb0 := BA1.out.cell 1
  have Kc0 := BA1.out.cell 2
  have Kd0 := XB1.out.cell 0
  have Ke0 := XB1.out.cell 1
  have Kf0 := XB1.out.cell 2
  have sA := BA1.out.lt
  have sX := XB1.out.lt
  have HL1 := Lib.hid (hL1.below HB.out)
  have HV := Lib.hid (own_bs9 X1.out)
  go_wp2_with fail
  go_region_held3 (fun V => V.cell? ⟨w.heap.size + 1, 0, none⟩ = some (.int .i64 a1) ∧ V.cell? ⟨w.heap.size + 1, 1, none⟩ = some (.int .i64 m1) ∧ V.cell? ⟨w.heap.size + 1, 2, none⟩ = some (.slice A1 l1.length c1) ∧ V.cell? ⟨x1.heap.size, 0, none⟩ = some (.int .i64 a1) ∧ V.cell? ⟨x1.heap.size, 1, none⟩ = some (.int .i64 m1) ∧ V.cell? ⟨x1.heap.size, 2, none⟩ = some (.slice xA1 l1.length xc1)) (exact ⟨(by first | exact Ka0 | exact Ka1 | exact Ka2), (by first | exact Kb0 | exact Kb1 | exact Kb2), (by first | exact Kc0 | exact Kc1 | exact Kc2), (by first | exact Kd0 | exact Kd1 | exact Kd2), (by first | exact Ke0 | exact Ke1 | exact Ke2), (by first | exact Kf0 | exact Kf1 | exact Kf2)⟩) (first
    | (go_at_call 16; refine (toEdit_any a1 m1 A1 l1 c1 _ hl1 (by exact HL1.out)).mono ?_; rintro e u1 ⟨v, rfl, hown, hb⟩; have hb : Below v0.heap.size v0 u1 := ⟨hb.os, hb.tape, hb.output, hb.size, hb.block⟩; obtain ⟨uA, uc, rfl, _, _, hB⟩ := hown.form; have Ka1 := (hb.cell (p := ⟨w.heap.size + 1, 0, none⟩) sA).trans Ka0; have Kb1 := (hb.cell (p := ⟨w.heap.size + 1, 1, none⟩) sA).trans Kb0; have Kc1 := (hb.cell (p := ⟨w.heap.size + 1, 2, none⟩) sA).trans Kc0; have Kd1 := (hb.cell (p := ⟨x1.heap.size, 0, none⟩) sX).trans Kd0; have Ke1 := (hb.cell (p := ⟨x1.heap.size, 1, none⟩) sX).trans Ke0; have Kf1 := (hb.cell (p := ⟨x1.heap.size, 2, none⟩) sX).trans Kf0; have sA1 := Nat.lt_of_lt_of_le sA hb.size; have sX1 := Nat.lt_of_lt_of_le sX hb.size; have HU := Lib.hid hB; have HV1 := Lib.hid (HV.out.below hb); have HB1 := Lib.hid hb; clear hown hb hB)
    | (go_at_call 18; refine (eqEdit_any a1 m1 a1 m1 xA1 uA l1 l1 xc1 uc _ hn91 (by exact HV1.out) (by exact HU.out)).mono ?_; rintro e v1 ⟨rfl, hb⟩; have hb : Below u1.heap.size u1 v1 := ⟨hb.os, hb.tape, hb.output, hb.size, hb.block⟩; rw [decide_eq_true (⟨rfl, rfl, rfl⟩ : a1 = a1 ∧ m1 = m1 ∧ l1 = l1)]; have Ka2 := (hb.cell (p := ⟨w.heap.size + 1, 0, none⟩) sA1).trans Ka1; have Kb2 := (hb.cell (p := ⟨w.heap.size + 1, 1, none⟩) sA1).trans Kb1; have Kc2 := (hb.cell (p := ⟨w.heap.size + 1, 2, none⟩) sA1).trans Kc1; have Kd2 := (hb.cell (p := ⟨x1.heap.size, 0, none⟩) sX1).trans Kd1; have Ke2 := (hb.cell (p := ⟨x1.heap.size, 1, none⟩) sX1).trans Ke1; have Kf2 := (hb.cell (p := ⟨x1.heap.size, 2, none⟩) sX1).trans Kf1; have HB2 := Lib.hid (below_then HB1.out hb); clear hb))
  have hb := HB2.out
  have BA0 := Lib.hid (BA0.out.below hb)
  have BA1 := Lib.hid (BA1.out.below hb)
  have X0 := Lib.hid (X0.out.below hb)
  have XB0 := Lib.hid (XB0.out.below hb)
  have X1 := Lib.hid (X1.out.below hb)
  have XB1 := Lib.hid (XB1.out.below hb)
  have HB := Lib.hid (below_then HB.out hb)
  clear hb HB2 HB1 HV1 HU HV HL1 Ka0 Ka1 Ka2 Kb0 Kb1 Kb2 Kc0 Kc1 Kc2 Kd0 Kd1 Kd2 Ke0 Ke1 Ke2 Kf0 Kf1 Kf2 sA sX sA1 sX1
  go_wp2
  go_ret
  exact ⟨rfl, HB.out⟩

end Go.Proofs.Ytoaimklllmelpaa.fnExactEditsApart
