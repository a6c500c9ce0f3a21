/-
  FnExactPosMove, its walk. Own work.
-/
import Derived.Test.YtoaimklllmelpaaLaw0
import Derived.Test.YtoaimklllmelpaaC05
import Derived.Test.YtoaimklllmelpaaJ09b
import Derived.ProofKit
import Derived.OpenShut
import Derived.OpenVars
import Derived.ChangeOld
import Derived.Deep.DeepHandedRow
import Derived.Deep.RegionHeld3
import Derived.Deep.DeepCutAuto
namespace Go.Proofs.Ytoaimklllmelpaa.fnExactPosMove
open Go.ChangeShapes Go.WideShapes Go.ChangeAt Go.RowKit P
set_option linter.unusedVariables false
set_option maxRecDepth 100000

set_option maxHeartbeats 16000000 in
theorem walk (a0 : Int) (ha0 : -9223372036854775808 ≤ a0 ∧ a0 ≤ 9223372036854775807) (a1 : Bool) (a2 m2 : Int) (ha2 : -9223372036854775808 ≤ a2 ∧ a2 ≤ 9223372036854775807) (hn2 : -9223372036854775808 ≤ m2 ∧ m2 ≤ 9223372036854775807) (A2 : Option Addr) (l2 : List UInt8) (c2 : Nat) (hc2 : l2.length ≤ c2) (hm2 : c2 ≤ maxLen) (w : World) (hL2 : Bs w A2 l2) :
    Calls Try.prog 3 #[.int .i64 a0, .bool a1, .agg #[.int .i64 a2, .int .i64 m2, .slice A2 l2.length c2]] w fun e w' => e = .returned (.bool true) ∧ Below w.heap.size w w' := by
  have hn92 : l2.length ≤ 9223372036854775807 := by unfold maxLen at hm2; omega
  clear hc2 hm2
  have BA2 := Blk.new w #[.int .i64 a2, .int .i64 m2, .slice A2 l2.length c2] 24
  have BA2 := Lib.hid BA2
  have hb0 := ((Below.refl w.heap.size w).alloc (Nat.le_refl _) (.cells #[.int .i64 a2, .int .i64 m2, .slice A2 l2.length c2] 24))
  obtain ⟨z, hze⟩ : ∃ z, posMove a0 a1 a2 m2 l2 = z := ⟨_, rfl⟩
  have HZE := Lib.hid hze
  have hzz : (z != z) = false := by simp
  clear hze 
  go_enter Try.func3, Try.ntmps3
  go_wp2_with fail
  generalize w.alloc (.cells #[.int .i64 a2, .int .i64 m2, .slice A2 l2.length c2] 24) = W0 at *
  have HB := Lib.hid hb0
  clear hb0
  refine (szEdit_any a2 m2 A2 l2.length c2 1048576 _ hn92 (by omega) (by omega)).mono ?_
  rintro e s2 ⟨⟨r2, rfl, hr2⟩, hb1⟩
  have BA2 := Lib.hid (BA2.out.below hb1)
  have HB := Lib.hid (below_then HB.out hb1)
  clear hb1
  by_cases hneg2 : r2 < 0
  · go_wp2
    go_ret
    exact ⟨rfl, HB.out⟩
  have hl2 : l2.length ≤ 1048576 := by omega
  clear hr2
  have zA : w.heap.size + 0 < s2.heap.size := BA2.out.lt
  have mp2 : s2.cell? ⟨w.heap.size, 0, none⟩ = some (.int .i64 a2) := BA2.out.cell 0
  have mq2 : s2.cell? ⟨w.heap.size, 1, none⟩ = some (.int .i64 m2) := BA2.out.cell 1
  have mr2 : s2.cell? ⟨w.heap.size, 2, none⟩ = some (.slice A2 l2.length c2) := BA2.out.cell 2
  have mz2 := BA2.out.lt
  have mL2 := Lib.hid (hL2.below HB.out)
  go_wp2_with fail
  refine (toEdit_any a2 m2 A2 l2 c2 _ hl2 (by exact mL2.out)).mono ?_; rintro e my1 ⟨v, rfl, hown, hb⟩; have hb : Below s2.heap.size s2 my1 := ⟨hb.os, hb.tape, hb.output, hb.size, hb.block⟩; have mp2_1 := (hb.cell (p := ⟨w.heap.size, 0, none⟩) mz2).trans mp2; have mq2_1 := (hb.cell (p := ⟨w.heap.size, 1, none⟩) mz2).trans mq2; have mr2_1 := (hb.cell (p := ⟨w.heap.size, 2, none⟩) mz2).trans mr2; have mz2_1 := Nat.lt_of_lt_of_le mz2 hb.size; have mL2 := Lib.hid (mL2.out.below hb); obtain ⟨mA2, mc2, rfl, mhc2, mhk2, hB, hp1, hp2⟩ := own_plain9 hown; have mX2 := Lib.hid hB; have mD2 : Hid (Pl mA2 mc2) := Lib.hid (by unfold Pl; exact ⟨hp1, hp2⟩); have mHB1 := Lib.hid hb; clear hown hb hB hp1 hp2
  go_wp2_with fail
  refine (specPosMove_any a0 a1 a2 m2 mA2 l2 mc2 _ hn92).mono ?_; rintro e my2 ⟨rfl, hb⟩; rw [HZE.out]; have hb : Below my1.heap.size my1 my2 := ⟨hb.os, hb.tape, hb.output, hb.size, hb.block⟩; have mp2_2 := (hb.cell (p := ⟨w.heap.size, 0, none⟩) mz2_1).trans mp2_1; have mq2_2 := (hb.cell (p := ⟨w.heap.size, 1, none⟩) mz2_1).trans mq2_1; have mr2_2 := (hb.cell (p := ⟨w.heap.size, 2, none⟩) mz2_1).trans mr2_1; have mz2_2 := Nat.lt_of_lt_of_le mz2_1 hb.size; have mHB2 := Lib.hid (below_then mHB1.out hb); clear hb
  have hb := mHB2.out
  have BA2 := Lib.hid (BA2.out.below hb)
  have HB := Lib.hid (below_then HB.out hb)
  clear hb mHB1 mHB2 mL2 mX2 mD2 mp2 mp2_1 mp2_2 mq2 mq2_1 mq2_2 mr2 mr2_1 mr2_2 mz2 mz2_1 mz2_2 mhc2 mhk2
  have q20 := BA2.out.cell 0
  have q21 := BA2.out.cell 1
  have q22 := BA2.out.cell 2
  have HL2 := Lib.hid (hL2.below HB.out)
  go_wp2_with fail
  refine (toEdit_any a2 m2 A2 l2 c2 _ hl2 (by exact HL2.out)).mono ?_
  rintro e x2 ⟨v, rfl, hown, hb⟩
  obtain ⟨xA2, xc2, rfl, xh2, xk2, _, xp2, xq2⟩ := own_plain9 hown
  have hal := (Below.refl x2.heap.size x2).alloc (Nat.le_refl _) (.cells #[.int .i64 a2, .int .i64 m2, .slice xA2 l2.length xc2] 27)
  have z2 := hb.size
  have RX2 := Lib.hid hown.range
  have hb2 := below_then hb hal
  have BA2 := Lib.hid (BA2.out.below hb2)
  have HB := Lib.hid (below_then HB.out hb2)
  have X2 := Lib.hid (hown.below hal)
  have XB2 := Lib.hid (Blk.new x2 #[.int .i64 a2, .int .i64 m2, .slice xA2 l2.length xc2] 27)
  have zz2 : x2.heap.size < (x2.alloc (.cells #[.int .i64 a2, .int .i64 m2, .slice xA2 l2.length xc2] 27)).heap.size := by simp
  clear hown hb hb2 hal HL2 q20 q21 q22
  go_wp2_with fail
  generalize x2.alloc (.cells #[.int .i64 a2, .int .i64 m2, .slice xA2 l2.length xc2] 27) = xw2 at *
  have q20 := XB2.out.cell 0
  have q21 := XB2.out.cell 1
  have q22 := XB2.out.cell 2
  have pX2 := Lib.hid (own_bs9 X2.out)
  go_wp2_with fail
  refine (implPosMove_any a0 a1 a2 m2 xA2 l2 xc2 _ hn92).mono ?_
  rintro e g ⟨rfl, hb⟩
  rw [HZE.out]
  have BA2 := Lib.hid (BA2.out.below hb)
  have X2 := Lib.hid (X2.out.below hb)
  have XB2 := Lib.hid (XB2.out.below hb)
  have HB := Lib.hid (below_then HB.out hb)
  clear hb q20 q21 q22 pX2
  have Ka0 := BA2.out.cell 0
  have Kb0 := BA2.out.cell 1
  have Kc0 := BA2.out.cell 2
  have Kd0 := XB2.out.cell 0
  have Ke0 := XB2.out.cell 1
  have Kf0 := XB2.out.cell 2
  have sA := BA2.out.lt
  have sX := XB2.out.lt
  have HL2 := Lib.hid (hL2.below HB.out)
  have HV := Lib.hid (own_bs9 X2.out)
  go_wp2_with fail
  go_region_held3 (fun V => V.cell? ⟨w.heap.size, 0, none⟩ = some (.int .i64 a2) ∧ V.cell? ⟨w.heap.size, 1, none⟩ = some (.int .i64 m2) ∧ V.cell? ⟨w.heap.size, 2, none⟩ = some (.slice A2 l2.length c2) ∧ V.cell? ⟨x2.heap.size, 0, none⟩ = some (.int .i64 a2) ∧ V.cell? ⟨x2.heap.size, 1, none⟩ = some (.int .i64 m2) ∧ V.cell? ⟨x2.heap.size, 2, none⟩ = some (.slice xA2 l2.length xc2)) (exact ⟨(by first | exact Ka0 | exact Ka1 | exact Ka2), (by first | exact Kb0 | exact Kb1 | exact Kb2), (by first | exact Kc0 | exact Kc1 | exact Kc2), (by first | exact Kd0 | exact Kd1 | exact Kd2), (by first | exact Ke0 | exact Ke1 | exact Ke2), (by first | exact Kf0 | exact Kf1 | exact Kf2)⟩) (first
    | (go_at_call 16; refine (toEdit_any a2 m2 A2 l2 c2 _ hl2 (by exact HL2.out)).mono ?_; rintro e u2 ⟨v, rfl, hown, hb⟩; have hb : Below g.heap.size g u2 := ⟨hb.os, hb.tape, hb.output, hb.size, hb.block⟩; obtain ⟨uA, uc, rfl, _, _, hB⟩ := hown.form; have Ka1 := (hb.cell (p := ⟨w.heap.size, 0, none⟩) sA).trans Ka0; have Kb1 := (hb.cell (p := ⟨w.heap.size, 1, none⟩) sA).trans Kb0; have Kc1 := (hb.cell (p := ⟨w.heap.size, 2, none⟩) sA).trans Kc0; have Kd1 := (hb.cell (p := ⟨x2.heap.size, 0, none⟩) sX).trans Kd0; have Ke1 := (hb.cell (p := ⟨x2.heap.size, 1, none⟩) sX).trans Ke0; have Kf1 := (hb.cell (p := ⟨x2.heap.size, 2, none⟩) sX).trans Kf0; have sA1 := Nat.lt_of_lt_of_le sA hb.size; have sX1 := Nat.lt_of_lt_of_le sX hb.size; have HU := Lib.hid hB; have HV1 := Lib.hid (HV.out.below hb); have HB1 := Lib.hid hb; clear hown hb hB)
    | (go_at_call 18; refine (eqEdit_any a2 m2 a2 m2 xA2 uA l2 l2 xc2 uc _ hn92 (by exact HV1.out) (by exact HU.out)).mono ?_; rintro e v2 ⟨rfl, hb⟩; have hb : Below u2.heap.size u2 v2 := ⟨hb.os, hb.tape, hb.output, hb.size, hb.block⟩; rw [decide_eq_true (⟨rfl, rfl, rfl⟩ : a2 = a2 ∧ m2 = m2 ∧ l2 = l2)]; have Ka2 := (hb.cell (p := ⟨w.heap.size, 0, none⟩) sA1).trans Ka1; have Kb2 := (hb.cell (p := ⟨w.heap.size, 1, none⟩) sA1).trans Kb1; have Kc2 := (hb.cell (p := ⟨w.heap.size, 2, none⟩) sA1).trans Kc1; have Kd2 := (hb.cell (p := ⟨x2.heap.size, 0, none⟩) sX1).trans Kd1; have Ke2 := (hb.cell (p := ⟨x2.heap.size, 1, none⟩) sX1).trans Ke1; have Kf2 := (hb.cell (p := ⟨x2.heap.size, 2, none⟩) sX1).trans Kf1; have HB2 := Lib.hid (below_then HB1.out hb); clear hb))
  have hb := HB2.out
  have BA2 := Lib.hid (BA2.out.below hb)
  have X2 := Lib.hid (X2.out.below hb)
  have XB2 := Lib.hid (XB2.out.below hb)
  have HB := Lib.hid (below_then HB.out hb)
  clear hb HB2 HB1 HV1 HU HV HL2 Ka0 Ka1 Ka2 Kb0 Kb1 Kb2 Kc0 Kc1 Kc2 Kd0 Kd1 Kd2 Ke0 Ke1 Ke2 Kf0 Kf1 Kf2 sA sX sA1 sX1
  go_wp2
  go_ret
  exact ⟨rfl, HB.out⟩

end Go.Proofs.Ytoaimklllmelpaa.fnExactPosMove
