/-
  FnExactEditMoves, its walk. Own work.
-/
import Derived.Test.YtnpbdkfkdbfdhaaLaw0
import Derived.Test.YtnpbdkfkdbfdhaaC07
import Derived.Test.YtnpbdkfkdbfdhaaJ11
import Derived.Test.YtnpbdkfkdbfdhaaJ11b
import Derived.ProofKit
import Derived.OpenShut
import Derived.OpenVars
import Derived.ChangeOld
import Derived.Deep.DeepHandedRow
import Derived.Deep.RegionHeld3
import Derived.Deep.DeepCutAuto
namespace Go.Proofs.Ytnpbdkfkdbfdhaa.fnExactEditMoves
open Go.ChangeShapes Go.WideShapes Go.ChangeAt Go.RowKit P
set_option linter.unusedVariables false
set_option maxRecDepth 100000

set_option maxHeartbeats 16000000 in
theorem walk (a0 m0 : Int) (ha0 : -9223372036854775808 ≤ a0 ∧ a0 ≤ 9223372036854775807) (hn0 : -9223372036854775808 ≤ m0 ∧ m0 ≤ 9223372036854775807) (A0 : Option Addr) (l0 : List UInt8) (c0 : Nat) (hc0 : l0.length ≤ c0) (hm0 : c0 ≤ maxLen) (A1 : Option Addr) (l1 : List Ed) (c1 : Nat) (hc1 : l1.length ≤ c1) (hm1 : c1 ≤ maxLen) (w : World) (hL0 : Bs w A0 l0) (hL1 : Es w A1 l1) :
    Calls Try.prog 3 #[.agg #[.int .i64 a0, .int .i64 m0, .slice A0 l0.length c0], .slice A1 l1.length c1] w fun e w' => e = .returned (.bool true) ∧ Below w.heap.size w w' := by
  have hn90 : l0.length ≤ 9223372036854775807 := by unfold maxLen at hm0; omega
  have hn91 : l1.length ≤ 9223372036854775807 := by unfold maxLen at hm1; omega
  clear hc0 hm0 hc1 hm1
  have BA0 := Blk.new w #[.int .i64 a0, .int .i64 m0, .slice A0 l0.length c0] 24
  have BA0 := Lib.hid BA0
  have hb0 := ((Below.refl w.heap.size w).alloc (Nat.le_refl _) (.cells #[.int .i64 a0, .int .i64 m0, .slice A0 l0.length c0] 24))
  obtain ⟨Ra, hRa⟩ : ∃ Ra, (moves (a0, m0, l0) l1).1.1 = Ra := ⟨_, rfl⟩
  have HRaE := Lib.hid hRa
  obtain ⟨Rm, hRm⟩ : ∃ Rm, (moves (a0, m0, l0) l1).1.2.1 = Rm := ⟨_, rfl⟩
  have HRmE := Lib.hid hRm
  obtain ⟨R, hR⟩ : ∃ R, (moves (a0, m0, l0) l1).1.2.2 = R := ⟨_, rfl⟩
  have HRE := Lib.hid hR
  have hRl : R.length ≤ 1000000 := by rw [← hR]; exact Nat.le_trans (moves_len (a0, m0, l0) l1) (by decide)
  obtain ⟨z, hze⟩ : ∃ z, (moves (a0, m0, l0) l1).2 = z := ⟨_, rfl⟩
  have HZE := Lib.hid hze
  have hzz : (z != z) = false := by simp
  clear hze hRa hRm hR
  go_enter Try.func3, Try.ntmps3
  go_wp2_with fail
  generalize w.alloc (.cells #[.int .i64 a0, .int .i64 m0, .slice A0 l0.length c0] 24) = W0 at *
  have HB := Lib.hid hb0
  clear hb0
  refine (szEdit_any a0 m0 A0 l0.length c0 1048576 _ hn90 (by omega) (by omega)).mono ?_
  rintro e s0 ⟨⟨r0, rfl, hr0⟩, hb1⟩
  have BA0 := Lib.hid (BA0.out.below hb1)
  have HB := Lib.hid (below_then HB.out hb1)
  clear hb1
  by_cases hneg0 : r0 < 0
  · go_wp2
    go_ret
    exact ⟨rfl, HB.out⟩
  have HL1 := Lib.hid (hL1.below HB.out)
  go_wp2_with fail
  refine (szEditS_any A1 l1 c1 r0 _ hn91 (by omega) (by omega) (by exact HL1.out)).mono ?_
  rintro e s1 ⟨⟨r1, rfl, hr1⟩, hb1⟩
  have BA0 := Lib.hid (BA0.out.below hb1)
  have HB := Lib.hid (below_then HB.out hb1)
  clear hb1 HL1
  by_cases hneg1 : r1 < 0
  · go_wp2
    go_ret
    exact ⟨rfl, HB.out⟩
  have hl0 : l0.length ≤ 1048576 := by omega
  have hl1 : l1.length + tot (puts l1) ≤ 1048576 := by omega
  clear hr0 hr1
  have zA : w.heap.size + 0 < s1.heap.size := BA0.out.lt
  have mp0 : s1.cell? ⟨w.heap.size, 0, none⟩ = some (.int .i64 a0) := BA0.out.cell 0
  have mq0 : s1.cell? ⟨w.heap.size, 1, none⟩ = some (.int .i64 m0) := BA0.out.cell 1
  have mr0 : s1.cell? ⟨w.heap.size, 2, none⟩ = some (.slice A0 l0.length c0) := BA0.out.cell 2
  have mz0 := BA0.out.lt
  have mL0 := Lib.hid (hL0.below HB.out)
  have mL1 := Lib.hid (hL1.below HB.out)
  go_wp2_with fail
  refine (toEdit_any a0 m0 A0 l0 c0 _ hl0 (by exact mL0.out)).mono ?_; rintro e my1 ⟨v, rfl, hown, hb⟩; have hb : Below s1.heap.size s1 my1 := ⟨hb.os, hb.tape, hb.output, hb.size, hb.block⟩; have mp0_1 := (hb.cell (p := ⟨w.heap.size, 0, none⟩) mz0).trans mp0; have mq0_1 := (hb.cell (p := ⟨w.heap.size, 1, none⟩) mz0).trans mq0; have mr0_1 := (hb.cell (p := ⟨w.heap.size, 2, none⟩) mz0).trans mr0; have mz0_1 := Nat.lt_of_lt_of_le mz0 hb.size; have mL0 := Lib.hid (mL0.out.below hb); have mL1 := Lib.hid (mL1.out.below hb); obtain ⟨mA0, mc0, rfl, mhc0, mhk0, hB, hp1, hp2⟩ := own_plain9 hown; have mX0 := Lib.hid hB; have mD0 : Hid (Pl mA0 mc0) := Lib.hid (by unfold Pl; exact ⟨hp1, hp2⟩); have mHB1 := Lib.hid hb; clear hown hb hB hp1 hp2
  go_wp2_with fail
  refine (toEditS_any A1 l1 c1 _ hl1 (by exact mL1.out)).mono ?_; rintro e my2 hgv; obtain ⟨mA1, mc1, mf1, rfl, hoe, hb⟩ := gives_edits hgv; have hb : Below my1.heap.size my1 my2 := ⟨hb.os, hb.tape, hb.output, hb.size, hb.block⟩; have mp0_2 := (hb.cell (p := ⟨w.heap.size, 0, none⟩) mz0_1).trans mp0_1; have mq0_2 := (hb.cell (p := ⟨w.heap.size, 1, none⟩) mz0_1).trans mq0_1; have mr0_2 := (hb.cell (p := ⟨w.heap.size, 2, none⟩) mz0_1).trans mr0_1; have mz0_2 := Nat.lt_of_lt_of_le mz0_1 hb.size; have mX0 := Lib.hid (mX0.out.below hb); have mL0 := Lib.hid (mL0.out.below hb); have mL1 := Lib.hid (mL1.out.below hb); have mX1 := Lib.hid hoe.es; have mD1 : True := trivial; have mHB2 := Lib.hid (below_then mHB1.out hb); clear hgv hoe hb
  go_wp2_with fail
  refine (specEditMoves_any a0 m0 mA0 l0 mc0 mA1 l1 mc1 _ hn90 hn91 (by exact mX0.out) (by exact mX1.out)).mono ?_; rintro e my3 ⟨v, rfl, hown, hb⟩; rw [HRE.out] at hown; rw [HZE.out, HRaE.out, HRmE.out]; have hb : Below my2.heap.size my2 my3 := ⟨hb.os, hb.tape, hb.output, hb.size, hb.block⟩; have mp0_3 := (hb.cell (p := ⟨w.heap.size, 0, none⟩) mz0_2).trans mp0_2; have mq0_3 := (hb.cell (p := ⟨w.heap.size, 1, none⟩) mz0_2).trans mq0_2; have mr0_3 := (hb.cell (p := ⟨w.heap.size, 2, none⟩) mz0_2).trans mr0_2; have mz0_3 := Nat.lt_of_lt_of_le mz0_2 hb.size; have mHB3 := Lib.hid (below_then mHB2.out hb); obtain ⟨oA, oc, rfl, ohc, ohk, _⟩ := hown.form; have oO := Lib.hid hown; clear hown hb
  have hb := mHB3.out
  have BA0 := Lib.hid (BA0.out.below hb)
  have HB := Lib.hid (below_then HB.out hb)
  have zw : s1.heap.size ≤ my3.heap.size := mHB3.out.size
  have RW := Lib.hid oO.out.range
  clear hb mHB1 mHB2 mHB3 mL0 mX0 mD0 mL1 mX1 mD1 mp0 mp0_1 mp0_2 mp0_3 mq0 mq0_1 mq0_2 mq0_3 mr0 mr0_1 mr0_2 mr0_3 mz0 mz0_1 mz0_2 mz0_3 mhc0 mhk0
  have hal := (Below.refl my3.heap.size my3).alloc (Nat.le_refl _) (.cells #[.int .i64 Ra, .int .i64 Rm, .slice oA R.length oc] 28)
  have BA0 := Lib.hid (BA0.out.below hal)
  have oO := Lib.hid (oO.out.below hal)
  have HB := Lib.hid (below_then HB.out hal)
  have OB := Lib.hid (Blk.new my3 #[.int .i64 Ra, .int .i64 Rm, .slice oA R.length oc] 28)
  have zob : my3.heap.size < (my3.alloc (.cells #[.int .i64 Ra, .int .i64 Rm, .slice oA R.length oc] 28)).heap.size := by simp
  clear hal
  have q00 := BA0.out.cell 0
  have q01 := BA0.out.cell 1
  have q02 := BA0.out.cell 2
  have HL0 := Lib.hid (hL0.below HB.out)
  go_wp2_with fail
  generalize my3.alloc (.cells #[.int .i64 Ra, .int .i64 Rm, .slice oA R.length oc] 28) = ow at *
  refine (toEdit_any a0 m0 A0 l0 c0 _ hl0 (by exact HL0.out)).mono ?_
  rintro e x0 ⟨v, rfl, hown, hb⟩
  obtain ⟨xA0, xc0, rfl, xh0, xk0, _, xp0, xq0⟩ := own_plain9 hown
  have hal := (Below.refl x0.heap.size x0).alloc (Nat.le_refl _) (.cells #[.int .i64 a0, .int .i64 m0, .slice xA0 l0.length xc0] 28)
  have z0 := hb.size
  have RX0 := Lib.hid hown.range
  have hb2 := below_then hb hal
  have BA0 := Lib.hid (BA0.out.below hb2)
  have oO := Lib.hid (oO.out.below hb2)
  have OB := Lib.hid (OB.out.below hb2)
  have HB := Lib.hid (below_then HB.out hb2)
  have X0 := Lib.hid (hown.below hal)
  have XB0 := Lib.hid (Blk.new x0 #[.int .i64 a0, .int .i64 m0, .slice xA0 l0.length xc0] 28)
  have zz0 : x0.heap.size < (x0.alloc (.cells #[.int .i64 a0, .int .i64 m0, .slice xA0 l0.length xc0] 28)).heap.size := by simp
  clear hown hb hb2 hal HL0 q00 q01 q02
  go_wp2_with fail
  generalize x0.alloc (.cells #[.int .i64 a0, .int .i64 m0, .slice xA0 l0.length xc0] 28) = xw0 at *
  have HL1 := Lib.hid (hL1.below HB.out)
  refine (toEditS_any A1 l1 c1 _ hl1 (by exact HL1.out)).mono ?_
  rintro e x1 hgv
  obtain ⟨xA1, xc1, xf1, rfl, hoe, hb⟩ := gives_edits hgv
  have z1 := hb.size
  have RX1 := Lib.hid hoe.range
  have BA0 := Lib.hid (BA0.out.below hb)
  have oO := Lib.hid (oO.out.below hb)
  have OB := Lib.hid (OB.out.below hb)
  have X0 := Lib.hid (X0.out.below hb)
  have XB0 := Lib.hid (XB0.out.below hb)
  have HB := Lib.hid (below_then HB.out hb)
  have X1 := Lib.hid hoe
  clear hgv hoe hb HL1
  have q00 := XB0.out.cell 0
  have q01 := XB0.out.cell 1
  have q02 := XB0.out.cell 2
  have pX0 := Lib.hid (own_bs9 X0.out)
  have pX1 := Lib.hid X1.out.es
  go_wp2_with fail
  refine (implEditMoves_any a0 m0 xA0 l0 xc0 xA1 l1 xc1 _ hn90 hn91 (by exact pX0.out) (by exact pX1.out)).mono ?_
  rintro e g ⟨v, rfl, hown, hb⟩
  rw [HRE.out] at hown
  rw [HZE.out, HRaE.out, HRmE.out]
  obtain ⟨gA, gc, rfl, _, _, _⟩ := hown.form
  have zg := hb.size
  have RG := Lib.hid hown.range
  have hal := (Below.refl g.heap.size g).alloc (Nat.le_refl _) (.cells #[.int .i64 Ra, .int .i64 Rm, .slice gA R.length gc] 28)
  have hb2 := below_then hb hal
  have BA0 := Lib.hid (BA0.out.below hb2)
  have oO := Lib.hid (oO.out.below hb2)
  have OB := Lib.hid (OB.out.below hb2)
  have X0 := Lib.hid (X0.out.below hb2)
  have XB0 := Lib.hid (XB0.out.below hb2)
  have X1 := Lib.hid (X1.out.below hb2)
  have HB := Lib.hid (below_then HB.out hb2)
  have G := Lib.hid (hown.below hal)
  have GB := Lib.hid (Blk.new g #[.int .i64 Ra, .int .i64 Rm, .slice gA R.length gc] 28)
  have zzg : g.heap.size < (g.alloc (.cells #[.int .i64 Ra, .int .i64 Rm, .slice gA R.length gc] 28)).heap.size := by simp
  clear hown hal hb2
  clear hb q00 q01 q02 pX0 pX1
  have q0 := GB.out.cell 0
  have q3 := OB.out.cell 0
  have q1 := GB.out.cell 1
  have q4 := OB.out.cell 1
  have q2 := GB.out.cell 2
  have q5 := OB.out.cell 2
  go_wp2_with fail
  generalize g.alloc (.cells #[.int .i64 Ra, .int .i64 Rm, .slice gA R.length gc] 28) = gw at *
  have E1 := Lib.hid (own_bs9 G.out)
  have E2 := Lib.hid (own_bs9 oO.out)
  refine (eqEdit_any Ra Rm Ra Rm gA oA R R gc oc _ (by omega) (by exact E1.out) (by exact E2.out)).mono ?_
  rintro e h1 ⟨rfl, hb⟩
  rw [decide_eq_true (⟨rfl, rfl, rfl⟩ : Ra = Ra ∧ Rm = Rm ∧ R = R)]
  clear E1 E2 q0 q1 q2 q3 q4 q5
  have BA0 := Lib.hid (BA0.out.below hb)
  have oO := Lib.hid (oO.out.below hb)
  have OB := Lib.hid (OB.out.below hb)
  have X0 := Lib.hid (X0.out.below hb)
  have XB0 := Lib.hid (XB0.out.below hb)
  have X1 := Lib.hid (X1.out.below hb)
  have G := Lib.hid (G.out.below hb)
  have GB := Lib.hid (GB.out.below hb)
  have HB := Lib.hid (below_then HB.out hb)
  clear hb
  have Ka0 := BA0.out.cell 0
  have Kb0 := BA0.out.cell 1
  have Kc0 := BA0.out.cell 2
  have Kd0 := XB0.out.cell 0
  have Ke0 := XB0.out.cell 1
  have Kf0 := XB0.out.cell 2
  have sA := BA0.out.lt
  have sX := XB0.out.lt
  have HL0 := Lib.hid (hL0.below HB.out)
  have HV := Lib.hid (own_bs9 X0.out)
  go_wp2_with fail
  go_region_held3 (fun V => V.cell? ⟨w.heap.size, 0, none⟩ = some (.int .i64 a0) ∧ V.cell? ⟨w.heap.size, 1, none⟩ = some (.int .i64 m0) ∧ V.cell? ⟨w.heap.size, 2, none⟩ = some (.slice A0 l0.length c0) ∧ V.cell? ⟨x0.heap.size, 0, none⟩ = some (.int .i64 a0) ∧ V.cell? ⟨x0.heap.size, 1, none⟩ = some (.int .i64 m0) ∧ V.cell? ⟨x0.heap.size, 2, none⟩ = some (.slice xA0 l0.length xc0)) (exact ⟨(by first | exact Ka0 | exact Ka1 | exact Ka2), (by first | exact Kb0 | exact Kb1 | exact Kb2), (by first | exact Kc0 | exact Kc1 | exact Kc2), (by first | exact Kd0 | exact Kd1 | exact Kd2), (by first | exact Ke0 | exact Ke1 | exact Ke2), (by first | exact Kf0 | exact Kf1 | exact Kf2)⟩) (first
    | (go_at_call 15; refine (toEdit_any a0 m0 A0 l0 c0 _ hl0 (by exact HL0.out)).mono ?_; rintro e u0 ⟨v, rfl, hown, hb⟩; have hb : Below h1.heap.size h1 u0 := ⟨hb.os, hb.tape, hb.output, hb.size, hb.block⟩; obtain ⟨uA, uc, rfl, _, _, hB⟩ := hown.form; have Ka1 := (hb.cell (p := ⟨w.heap.size, 0, none⟩) sA).trans Ka0; have Kb1 := (hb.cell (p := ⟨w.heap.size, 1, none⟩) sA).trans Kb0; have Kc1 := (hb.cell (p := ⟨w.heap.size, 2, none⟩) sA).trans Kc0; have Kd1 := (hb.cell (p := ⟨x0.heap.size, 0, none⟩) sX).trans Kd0; have Ke1 := (hb.cell (p := ⟨x0.heap.size, 1, none⟩) sX).trans Ke0; have Kf1 := (hb.cell (p := ⟨x0.heap.size, 2, none⟩) sX).trans Kf0; have sA1 := Nat.lt_of_lt_of_le sA hb.size; have sX1 := Nat.lt_of_lt_of_le sX hb.size; have HU := Lib.hid hB; have HV1 := Lib.hid (HV.out.below hb); have HB1 := Lib.hid hb; clear hown hb hB)
    | (go_at_call 18; refine (eqEdit_any a0 m0 a0 m0 xA0 uA l0 l0 xc0 uc _ hn90 (by exact HV1.out) (by exact HU.out)).mono ?_; rintro e v0 ⟨rfl, hb⟩; have hb : Below u0.heap.size u0 v0 := ⟨hb.os, hb.tape, hb.output, hb.size, hb.block⟩; rw [decide_eq_true (⟨rfl, rfl, rfl⟩ : a0 = a0 ∧ m0 = m0 ∧ l0 = l0)]; have Ka2 := (hb.cell (p := ⟨w.heap.size, 0, none⟩) sA1).trans Ka1; have Kb2 := (hb.cell (p := ⟨w.heap.size, 1, none⟩) sA1).trans Kb1; have Kc2 := (hb.cell (p := ⟨w.heap.size, 2, none⟩) sA1).trans Kc1; have Kd2 := (hb.cell (p := ⟨x0.heap.size, 0, none⟩) sX1).trans Kd1; have Ke2 := (hb.cell (p := ⟨x0.heap.size, 1, none⟩) sX1).trans Ke1; have Kf2 := (hb.cell (p := ⟨x0.heap.size, 2, none⟩) sX1).trans Kf1; have HB2 := Lib.hid (below_then HB1.out hb); clear hb))
  have hb := HB2.out
  have BA0 := Lib.hid (BA0.out.below hb)
  have oO := Lib.hid (oO.out.below hb)
  have OB := Lib.hid (OB.out.below hb)
  have X0 := Lib.hid (X0.out.below hb)
  have XB0 := Lib.hid (XB0.out.below hb)
  have X1 := Lib.hid (X1.out.below hb)
  have G := Lib.hid (G.out.below hb)
  have GB := Lib.hid (GB.out.below hb)
  have HB := Lib.hid (below_then HB.out hb)
  clear hb HB2 HB1 HV1 HU HV HL0 Ka0 Ka1 Ka2 Kb0 Kb1 Kb2 Kc0 Kc1 Kc2 Kd0 Kd1 Kd2 Ke0 Ke1 Ke2 Kf0 Kf1 Kf2 sA sX sA1 sX1
  have HL1 := Lib.hid (hL1.below HB.out)
  go_wp2_with fail
  refine (toEditS_any A1 l1 c1 _ hl1 (by exact HL1.out)).mono ?_
  rintro e u1 hgv
  obtain ⟨uA1, uc1, uf1, rfl, hoe, hb⟩ := gives_edits hgv
  have BA0 := Lib.hid (BA0.out.below hb)
  have oO := Lib.hid (oO.out.below hb)
  have OB := Lib.hid (OB.out.below hb)
  have X0 := Lib.hid (X0.out.below hb)
  have XB0 := Lib.hid (XB0.out.below hb)
  have X1 := Lib.hid (X1.out.below hb)
  have G := Lib.hid (G.out.below hb)
  have GB := Lib.hid (GB.out.below hb)
  have HB := Lib.hid (below_then HB.out hb)
  have HU := Lib.hid hoe.es
  have HV := Lib.hid X1.out.es
  clear hgv hoe hb HL1
  go_wp2_with fail
  refine (eqEditS_any _ _ l1 l1 _ _ _ hn91 (by exact HV.out) (by exact HU.out)).mono ?_
  rintro e v1 ⟨rfl, hb⟩
  rw [decide_eq_true (rfl : l1 = l1)]
  clear HU HV
  have BA0 := Lib.hid (BA0.out.below hb)
  have oO := Lib.hid (oO.out.below hb)
  have OB := Lib.hid (OB.out.below hb)
  have X0 := Lib.hid (X0.out.below hb)
  have XB0 := Lib.hid (XB0.out.below hb)
  have X1 := Lib.hid (X1.out.below hb)
  have G := Lib.hid (G.out.below hb)
  have GB := Lib.hid (GB.out.below hb)
  have HB := Lib.hid (below_then HB.out hb)
  clear hb
  have q0 := XB0.out.cell 0
  have q1 := XB0.out.cell 1
  have q2 := XB0.out.cell 2
  go_wp2_with fail
  refine (markEdit_any a0 m0 _ l0 _ (1) _ (by omega) (by omega) (by exact X0.out)).mono ?_
  rintro e k0 ⟨rfl, _, hke⟩
  have BA0 := Lib.hid (BA0.out.of_block (hke.block _ BA0.out.lt (fun h => by have h1 := RX0.out _ h; omega)))
  have oO := Lib.hid (oO.out.keeps hke (fun b hb h => by have h1 := RX0.out b h; have h2 := RW.out b hb; omega))
  have OB := Lib.hid (OB.out.of_block (hke.block _ OB.out.lt (fun h => by have h1 := RX0.out _ h; omega)))
  have X1 := Lib.hid (X1.out.keeps hke (fun b hb h => by have h1 := RX0.out b h; have h2 := RX1.out b hb; omega))
  have G := Lib.hid (G.out.keeps hke (fun b hb h => by have h1 := RX0.out b h; have h2 := RG.out b hb; omega))
  have GB := Lib.hid (GB.out.of_block (hke.block _ GB.out.lt (fun h => by have h1 := RX0.out _ h; omega)))
  have HB := Lib.hid (HB.out.trans (hke.below (B := w.heap.size) HB.out.size (fun k hk => by have h1 := RX0.out k hk; omega)))
  have zk0 := hke.size
  clear hke X0 XB0 q0 q1 q2
  go_wp2_with fail
  refine (markEditS_any _ _ l1 _ (1 + l0.length) _ (by omega) (by omega) X1.out.nd (by exact X1.out.ow)).mono ?_
  rintro e k1 ⟨⟨n1, rfl, hn1⟩, hke⟩
  have BA0 := Lib.hid (BA0.out.of_block (hke.block _ BA0.out.lt (fun h => by have h1 := RX1.out _ h; omega)))
  have oO := Lib.hid (oO.out.keeps hke (fun b hb h => by have h1 := RX1.out b h; have h2 := RW.out b hb; omega))
  have OB := Lib.hid (OB.out.of_block (hke.block _ OB.out.lt (fun h => by have h1 := RX1.out _ h; omega)))
  have G := Lib.hid (G.out.keeps hke (fun b hb h => by have h1 := RX1.out b h; have h2 := RG.out b hb; omega))
  have GB := Lib.hid (GB.out.of_block (hke.block _ GB.out.lt (fun h => by have h1 := RX1.out _ h; omega)))
  have HB := Lib.hid (HB.out.trans (hke.below (B := w.heap.size) HB.out.size (fun k hk => by have h1 := RX1.out k hk; omega)))
  have zk1 := hke.size
  clear hke X1
  obtain ⟨K, hK, hK0⟩ : ∃ K : Int, ((n1 : Nat) : Int) = K ∧ ¬ K < 0 := ⟨_, rfl, by omega⟩
  have hKd : decide (K < 0) = false := decide_eq_false hK0
  rw [hK]
  clear hK hK0
  have q0 := GB.out.cell 0
  have q1 := GB.out.cell 1
  have q2 := GB.out.cell 2
  have q3 := OB.out.cell 0
  have q4 := OB.out.cell 1
  have q5 := OB.out.cell 2
  have E1 := Lib.hid (own_bs9 G.out)
  have E2 := Lib.hid (own_bs9 oO.out)
  go_wp2_with fail
  refine (eqEdit_any Ra Rm Ra Rm gA oA R R gc oc _ (by omega) (by exact E1.out) (by exact E2.out)).mono ?_
  rintro e h2 ⟨rfl, hb⟩
  rw [decide_eq_true (⟨rfl, rfl, rfl⟩ : Ra = Ra ∧ Rm = Rm ∧ R = R)]
  clear E1 E2 q0 q1 q2 q3 q4 q5
  have BA0 := Lib.hid (BA0.out.below hb)
  have oO := Lib.hid (oO.out.below hb)
  have OB := Lib.hid (OB.out.below hb)
  have G := Lib.hid (G.out.below hb)
  have GB := Lib.hid (GB.out.below hb)
  have HB := Lib.hid (below_then HB.out hb)
  clear hb
  clear hKd
  have q0 := GB.out.cell 0
  have q1 := GB.out.cell 1
  have q2 := GB.out.cell 2
  go_wp2_with fail
  refine (markEdit_any Ra Rm _ R _ 1 _ (by omega) (by omega) (by exact G.out)).mono ?_
  rintro e kg ⟨rfl, hG, hke⟩
  have BA0 := Lib.hid (BA0.out.of_block (hke.block _ BA0.out.lt (fun h => by have h1 := RG.out _ h; omega)))
  have oO := Lib.hid (oO.out.keeps hke (fun b hb h => by have h1 := RG.out b h; have h2 := RW.out b hb; omega))
  have OB := Lib.hid (OB.out.of_block (hke.block _ OB.out.lt (fun h => by have h1 := RG.out _ h; omega)))
  have GB := Lib.hid (GB.out.of_block (hke.block _ GB.out.lt (fun h => by have h1 := RG.out _ h; omega)))
  have HB := Lib.hid (HB.out.trans (hke.below (B := w.heap.size) HB.out.size (fun k hk => by have h1 := RG.out k hk; omega)))
  have zkg := hke.size
  have hM := own_bs9 hG
  have HM := Lib.hid hM
  clear hM hG hke q0 q1 q2 G
  have q0 := GB.out.cell 0
  have q1 := GB.out.cell 1
  have q2 := GB.out.cell 2
  go_wp2_with fail
  refine (heldEdit_any Ra Rm gA R.length gc 1 _ (by omega) (by omega) (by exact HM.out)).mono ?_
  rintro e h3 ⟨rfl, hb⟩
  have BA0 := Lib.hid (BA0.out.below hb)
  have oO := Lib.hid (oO.out.below hb)
  have OB := Lib.hid (OB.out.below hb)
  have GB := Lib.hid (GB.out.below hb)
  have HM := Lib.hid (HM.out.below hb)
  have HB := Lib.hid (below_then HB.out hb)
  clear hb q0 q1 q2
  have np0 : h3.cell? ⟨w.heap.size, 0, none⟩ = some (.int .i64 a0) := BA0.out.cell 0
  have nq0 : h3.cell? ⟨w.heap.size, 1, none⟩ = some (.int .i64 m0) := BA0.out.cell 1
  have nr0 : h3.cell? ⟨w.heap.size, 2, none⟩ = some (.slice A0 l0.length c0) := BA0.out.cell 2
  have nz0 := BA0.out.lt
  have nL0 := Lib.hid (hL0.below HB.out)
  have nL1 := Lib.hid (hL1.below HB.out)
  go_wp2_with fail
  refine (toEdit_any a0 m0 A0 l0 c0 _ hl0 (by exact nL0.out)).mono ?_; rintro e ny1 ⟨v, rfl, hown, hb⟩; have hb : Below h3.heap.size h3 ny1 := ⟨hb.os, hb.tape, hb.output, hb.size, hb.block⟩; have np0_1 := (hb.cell (p := ⟨w.heap.size, 0, none⟩) nz0).trans np0; have nq0_1 := (hb.cell (p := ⟨w.heap.size, 1, none⟩) nz0).trans nq0; have nr0_1 := (hb.cell (p := ⟨w.heap.size, 2, none⟩) nz0).trans nr0; have nz0_1 := Nat.lt_of_lt_of_le nz0 hb.size; have nL0 := Lib.hid (nL0.out.below hb); have nL1 := Lib.hid (nL1.out.below hb); obtain ⟨nA0, nc0, rfl, nhc0, nhk0, hB, hp1, hp2⟩ := own_plain9 hown; have nX0 := Lib.hid hB; have nD0 : Hid (Pl nA0 nc0) := Lib.hid (by unfold Pl; exact ⟨hp1, hp2⟩); have nHB1 := Lib.hid hb; clear hown hb hB hp1 hp2
  go_wp2_with fail
  refine (toEditS_any A1 l1 c1 _ hl1 (by exact nL1.out)).mono ?_; rintro e ny2 hgv; obtain ⟨nA1, nc1, nf1, rfl, hoe, hb⟩ := gives_edits hgv; have hb : Below ny1.heap.size ny1 ny2 := ⟨hb.os, hb.tape, hb.output, hb.size, hb.block⟩; have np0_2 := (hb.cell (p := ⟨w.heap.size, 0, none⟩) nz0_1).trans np0_1; have nq0_2 := (hb.cell (p := ⟨w.heap.size, 1, none⟩) nz0_1).trans nq0_1; have nr0_2 := (hb.cell (p := ⟨w.heap.size, 2, none⟩) nz0_1).trans nr0_1; have nz0_2 := Nat.lt_of_lt_of_le nz0_1 hb.size; have nX0 := Lib.hid (nX0.out.below hb); have nL0 := Lib.hid (nL0.out.below hb); have nL1 := Lib.hid (nL1.out.below hb); have nX1 := Lib.hid hoe.es; have nD1 : True := trivial; have nHB2 := Lib.hid (below_then nHB1.out hb); clear hgv hoe hb
  go_wp2_with fail
  refine (implEditMoves_any a0 m0 nA0 l0 nc0 nA1 l1 nc1 _ hn90 hn91 (by exact nX0.out) (by exact nX1.out)).mono ?_; rintro e ny3 ⟨v, rfl, hown, hb⟩; rw [HRE.out] at hown; rw [HZE.out, HRaE.out, HRmE.out]; have hb : Below ny2.heap.size ny2 ny3 := ⟨hb.os, hb.tape, hb.output, hb.size, hb.block⟩; have np0_3 := (hb.cell (p := ⟨w.heap.size, 0, none⟩) nz0_2).trans np0_2; have nq0_3 := (hb.cell (p := ⟨w.heap.size, 1, none⟩) nz0_2).trans nq0_2; have nr0_3 := (hb.cell (p := ⟨w.heap.size, 2, none⟩) nz0_2).trans nr0_2; have nz0_3 := Nat.lt_of_lt_of_le nz0_2 hb.size; have nHB3 := Lib.hid (below_then nHB2.out hb); obtain ⟨tA, tc, rfl, thc, thk, _⟩ := hown.form; have tO := Lib.hid hown; clear hown hb
  have hb := nHB3.out
  have BA0 := Lib.hid (BA0.out.below hb)
  have oO := Lib.hid (oO.out.below hb)
  have OB := Lib.hid (OB.out.below hb)
  have GB := Lib.hid (GB.out.below hb)
  have HM := Lib.hid (HM.out.below hb)
  have HB := Lib.hid (below_then HB.out hb)
  clear hb nHB1 nHB2 nHB3 nL0 nX0 nD0 nL1 nX1 nD1 np0 np0_1 np0_2 np0_3 nq0 nq0_1 nq0_2 nq0_3 nr0 nr0_1 nr0_2 nr0_3 nz0 nz0_1 nz0_2 nz0_3 nhc0 nhk0
  have hal := (Below.refl ny3.heap.size ny3).alloc (Nat.le_refl _) (.cells #[.int .i64 Ra, .int .i64 Rm, .slice tA R.length tc] 28)
  have BA0 := Lib.hid (BA0.out.below hal)
  have oO := Lib.hid (oO.out.below hal)
  have OB := Lib.hid (OB.out.below hal)
  have GB := Lib.hid (GB.out.below hal)
  have HM := Lib.hid (HM.out.below hal)
  have tO := Lib.hid (tO.out.below hal)
  have HB := Lib.hid (below_then HB.out hal)
  have TB := Lib.hid (Blk.new ny3 #[.int .i64 Ra, .int .i64 Rm, .slice tA R.length tc] 28)
  clear hal
  have q0 := TB.out.cell 0
  have q1 := TB.out.cell 1
  have q2 := TB.out.cell 2
  have q3 := OB.out.cell 0
  have q4 := OB.out.cell 1
  have q5 := OB.out.cell 2
  have E1 := Lib.hid (own_bs9 tO.out)
  have E2 := Lib.hid (own_bs9 oO.out)
  go_wp2_with fail
  refine (eqEdit_any Ra Rm Ra Rm tA oA R R tc oc _ (by omega) (by exact E1.out) (by exact E2.out)).mono ?_
  rintro e h4 ⟨rfl, hb⟩
  rw [decide_eq_true (⟨rfl, rfl, rfl⟩ : Ra = Ra ∧ Rm = Rm ∧ R = R)]
  clear E1 E2 q0 q1 q2 q3 q4 q5
  have BA0 := Lib.hid (BA0.out.below hb)
  have oO := Lib.hid (oO.out.below hb)
  have OB := Lib.hid (OB.out.below hb)
  have GB := Lib.hid (GB.out.below hb)
  have HM := Lib.hid (HM.out.below hb)
  have tO := Lib.hid (tO.out.below hb)
  have TB := Lib.hid (TB.out.below hb)
  have HB := Lib.hid (below_then HB.out hb)
  clear hb
  have q0 := GB.out.cell 0
  have q1 := GB.out.cell 1
  have q2 := GB.out.cell 2
  go_wp2_with fail
  refine (heldEdit_any Ra Rm gA R.length gc 1 _ (by omega) (by omega) (by exact HM.out)).mono ?_
  rintro e h5 ⟨rfl, hb⟩
  have BA0 := Lib.hid (BA0.out.below hb)
  have GB := Lib.hid (GB.out.below hb)
  have HM := Lib.hid (HM.out.below hb)
  have HB := Lib.hid (below_then HB.out hb)
  clear hb q0 q1 q2
  go_wp2
  go_ret
  exact ⟨rfl, HB.out⟩

end Go.Proofs.Ytnpbdkfkdbfdhaa.fnExactEditMoves
